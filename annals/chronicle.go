package annals

import "slices"

// event is what claims ask of a report: the number of its slide, and the day.
type event struct{ slide, day int }

// kind is what claims of a kind say of the reports A and B.
type kind struct{ holds func(a, b event) bool }

func (x Claim) kind() kind {
	switch x.Kind {
	case Before:
		return kind{func(a, b event) bool { return a.day < b.day }}
	case Same:
		return kind{func(a, b event) bool { return a.slide == b.slide }}
	}
	return kind{func(a, b event) bool { return a.slide != b.slide }}
}

func (c Chronicle) event(report int) event { return event{c.Slides[report], c.Days[report]} }

// tells asks whether a chronicle has a slide, numbered as it should be, and a day for so many reports.
func (c Chronicle) tells(reports int) bool {
	return len(c.Slides) == reports && len(c.Days) == reports && slices.Equal(c.Slides, numbered(c.Slides))
}

// agree asks whether a chronicle that tells of all reports is right.
func (a Annals) agree(c Chronicle) bool {
	for i, r := range a.Reports {
		if !r.When.has(c.Days[i]) {
			return false
		}
		for k := range i {
			if !a.mayBeBoth(i, k, c) {
				return false
			}
		}
	}
	return all(a.Claims, func(x Claim) bool { return x.kind().holds(c.event(x.A), c.event(x.B)) })
}

// mayBeBoth asks whether two reports may have the slides and the days that they have beside each other.
func (a Annals) mayBeBoth(i, k int, c Chronicle) bool {
	x, y := c.event(i), c.event(k)
	oneSlope := a.Reports[i].Slope == a.Reports[k].Slope
	if x.slide == y.slide {
		return oneSlope && x == y
	}
	return !oneSlope || latest(x.day, y.day)-earliest(x.day, y.day) >= a.gap()
}

// gap is the least number of days between slides of a slope; even without a Rest they are not on one day.
func (a Annals) gap() int { return max(a.Rest, 1) }

// numbered gives each element its number, if they are numbered in the order in which new ones come.
func numbered[T comparable](list []T) []int {
	var known []T
	var numbers []int
	for _, x := range list {
		if !slices.Contains(known, x) {
			known = append(known, x)
		}
		numbers = append(numbers, slices.Index(known, x))
	}
	return numbers
}

func latest(days ...int) int { return slices.Max(days) }

func earliest(days ...int) int { return slices.Min(days) }
