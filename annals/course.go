package annals

import (
	"iter"
	"math/bits"

	"sackung/api"
)

// never is a day so long ago that no Rest lasts from it to the day 0.
const never = -api.MaxEpoch

// moment is all that counts of the slides so far for those to come. No slide comes on an earlier day than the ones before it.
type moment struct {
	left  set                  // the reports without a slide so far
	later set                  // those of them for which the latest day is too early
	day   int                  // the latest day
	last  [api.MaxSite + 1]int // the last day of each slope
}

// course is annals that are gone through slide by slide, each one on the first day that it may have: if any days are right for slides in this order, those are, and none of them can be earlier.
type course struct {
	Annals
	moment
	known map[moment]bool // whether a right chronicle goes on from a moment
}

func (a Annals) course() course {
	c := course{Annals: a, known: map[moment]bool{}}
	for report := range a.Reports {
		c.left |= just(report)
	}
	for slope := range c.last {
		c.last[slope] = never
	}
	return c
}

func (a Annals) canBe() bool { return a.course().leadsOn() }

// leadsOn asks whether a right chronicle goes on from here.
func (c course) leadsOn() bool {
	if c.left == 0 {
		return true
	}
	leads, known := c.known[c.moment]
	if !known {
		for range c.next() {
			leads = true
			break
		}
		c.known[c.moment] = leads
	}
	return leads
}

// next yields the slides that are next in right chronicles, and how these go on.
func (c course) next() iter.Seq2[set, course] {
	return func(yield func(set, course) bool) {
	slides:
		for s := range c.left.parts(c.mayBeNext) {
			for _, x := range c.Claims {
				if (s.has(x.A) || s.has(x.B)) && !x.kind().holds(c.place(x.A, s), c.place(x.B, s)) {
					continue slides
				}
			}
			if then := c.after(s); then.leadsOn() && !yield(s, then) {
				return
			}
		}
	}
}

// mayBeNext asks for one slope, and for a day that is not too late for any report that is left: the slides of the others are on no earlier day.
func (c course) mayBeNext(s set) bool {
	slope, day := c.slope(s), c.firstDay(s)
	for report := range c.left.reports() {
		r := c.Reports[report]
		if r.When.Hi < day || s.has(report) && r.Slope != slope {
			return false
		}
	}
	return true
}

// place stands for the slide of a report as far as it is known: it has been, is the next one or is still to come.
func (c course) place(report int, next set) event {
	switch {
	case next.has(report):
		return event{1, 1}
	case c.left.has(report):
		return event{2, 2}
	}
	return event{0, 0}
}

// slope is the slope of a slide: that of its first report.
func (c course) slope(s set) int { return c.Reports[bits.TrailingZeros8(uint8(s))].Slope }

// firstDay returns the first day that a slide may have if it is next.
func (c course) firstDay(s set) int {
	day := latest(c.day, c.last[c.slope(s)]+c.gap())
	if s&c.later != 0 {
		day = latest(day, c.day+1)
	}
	for report := range s.reports() {
		day = latest(day, c.Reports[report].When.Lo)
	}
	return day
}

func (c course) after(s set) course {
	day := c.firstDay(s)
	if day > c.day {
		c.later = 0
	}
	c.left &^= s
	c.day = day
	c.last[c.slope(s)] = day
	for _, x := range c.Claims {
		if x.Kind == Before && s.has(x.A) {
			c.later |= just(x.B)
		}
	}
	return c
}
