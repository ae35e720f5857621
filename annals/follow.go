package annals

import (
	"slices"

	"sackung/api"
)

// slides has the set of the reports that share the slide of each report.
type slides [api.MaxReports]set

func (l slides) and(s set) slides {
	for report := range s.reports() {
		l[report] = s
	}
	return l
}

// chronicle returns one of the right chronicles.
func (c course) chronicle() Chronicle {
	days := make([]int, len(c.Reports))
	var follow func(c course, l slides) slides
	follow = func(c course, l slides) slides {
		for s, then := range c.next() {
			for report := range s.reports() {
				days[report] = then.day
			}
			return follow(then, l.and(s))
		}
		return l
	}
	l := follow(c, slides{})
	return Chronicle{numbered(l[:len(days)]), days}
}

// firstDays returns the least day that each report has in right chronicles.
func (c course) firstDays() []int {
	days := slices.Repeat([]int{api.MaxEpoch}, len(c.Reports))
	seen := map[moment]bool{}
	var follow func(c course)
	follow = func(c course) {
		if seen[c.moment] {
			return
		}
		seen[c.moment] = true
		for s, then := range c.next() {
			for report := range s.reports() {
				days[report] = earliest(days[report], then.day)
			}
			follow(then)
		}
	}
	follow(c)
	return days
}

// view is a moment, with the slides that are known by then.
type view struct {
	moment
	slides
}

// ways returns all ways to see it, the least one first. Once they are more than MaxWays, it goes on no more.
func (c course) ways() [][]int {
	seen, whole := map[view]bool{}, map[slides]bool{}
	var follow func(c course, l slides)
	follow = func(c course, l slides) {
		if seen[view{c.moment, l}] || len(whole) > api.MaxWays {
			return
		}
		seen[view{c.moment, l}] = true
		if c.left == 0 {
			whole[l] = true
		}
		for s, then := range c.next() {
			follow(then, l.and(s))
		}
	}
	follow(c, slides{})
	var ways [][]int
	for l := range whole {
		ways = append(ways, numbered(l[:len(c.Reports)]))
	}
	slices.SortFunc(ways, slices.Compare)
	return ways
}
