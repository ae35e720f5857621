package annals_test

import (
	"math/rand"
	"slices"
	"testing"

	"sackung/annals"
	"sackung/api"
)

func to(low, high int) annals.Range { return annals.Range{Lo: low, Hi: high} }

func report(slope, low, high int) annals.Report {
	return annals.Report{Slope: slope, When: to(low, high)}
}

func claim(kind uint8, a, b int) annals.Claim { return annals.Claim{Kind: kind, A: a, B: b} }

// of are annals of these reports.
func of(rest int, reports ...annals.Report) annals.Annals {
	return annals.Annals{Reports: reports, Rest: rest}
}

// with are the annals with claims more, in memory of their own.
func with(a annals.Annals, more ...annals.Claim) annals.Annals {
	a.Reports = slices.Clone(a.Reports)
	a.Claims = slices.Concat(a.Claims, more)
	return a
}

// valley are the annals of the chapter's examples.
func valley() annals.Annals {
	return with(of(30, report(1, 100, 120), report(1, 110, 200), report(2, 90, 130), report(1, 150, 160)),
		claim(annals.Before, 2, 0), claim(annals.Other, 1, 0))
}

// never are annals that cannot be.
func never() annals.Annals {
	return with(of(10, report(1, 0, 9), report(1, 5, 9)), claim(annals.Before, 0, 1))
}

func chance() *rand.Rand { return rand.New(rand.NewSource(5)) }

func apart(a, b int) int {
	if a < b {
		return b - a
	}
	return a - b
}

// isRight asks each condition of the chapter, word by word.
func isRight(a annals.Annals, slides, days []int) bool {
	if len(slides) != len(a.Reports) || len(days) != len(a.Reports) {
		return false
	}
	greatest := -1
	for i, r := range a.Reports {
		if slides[i] < 0 || slides[i] > greatest+1 || days[i] < r.When.Lo || days[i] > r.When.Hi {
			return false
		}
		greatest = max(greatest, slides[i])
	}
	for i, x := range a.Reports {
		for k, y := range a.Reports {
			switch {
			case slides[i] == slides[k] && (x.Slope != y.Slope || days[i] != days[k]):
				return false
			case slides[i] != slides[k] && x.Slope == y.Slope && (days[i] == days[k] || apart(days[i], days[k]) < a.Rest):
				return false
			}
		}
	}
	for _, x := range a.Claims {
		if !claimHolds(x, slides, days) {
			return false
		}
	}
	return true
}

func claimHolds(x annals.Claim, slides, days []int) bool {
	switch x.Kind {
	case annals.Before:
		return days[x.A] < days[x.B]
	case annals.Same:
		return slides[x.A] == slides[x.B]
	}
	return slides[x.A] != slides[x.B]
}

// known is what the references find of annals: all ways, the least one first, and the days of each report; nothing, if the annals cannot be.
type known struct {
	ways [][]int
	days []annals.Range
}

// add notes a right chronicle.
func (k *known) add(slides, days []int) {
	if len(k.days) == 0 {
		for _, day := range days {
			k.days = append(k.days, to(day, day))
		}
	}
	for i, day := range days {
		k.days[i] = to(min(k.days[i].Lo, day), max(k.days[i].Hi, day))
	}
	if at, found := slices.BinarySearchFunc(k.ways, slides, slices.Compare); !found {
		k.ways = slices.Insert(k.ways, at, slices.Clone(slides))
	}
}

func (k known) canBe() bool { return len(k.ways) > 0 }

func (k known) surely(first, second int) uint8 {
	same := 0
	for _, l := range k.ways {
		if l[first] == l[second] {
			same++
		}
	}
	switch same {
	case len(k.ways):
		return annals.Same
	case 0:
		return annals.Other
	}
	return annals.Open
}

// knownByDays tries each slide and each day of each report.
func knownByDays(a annals.Annals) known {
	var k known
	var follow func(slides, days []int)
	follow = func(slides, days []int) {
		n := len(slides)
		if !isRight(firstReports(a, n), slides, days) {
			return
		}
		if n == len(a.Reports) {
			k.add(slides, days)
			return
		}
		for slide := 0; slide <= n; slide++ {
			low, high := a.Reports[n].When.Lo, a.Reports[n].When.Hi
			if i := slices.Index(slides, slide); i >= 0 {
				low, high = days[i], days[i]
			}
			for day := low; day <= high; day++ {
				follow(append(slices.Clone(slides), slide), append(slices.Clone(days), day))
			}
		}
	}
	follow(nil, nil)
	return k
}

// firstReports are the annals with their first reports alone, and what is claimed of those.
func firstReports(a annals.Annals, number int) annals.Annals {
	first := of(a.Rest, a.Reports[:number]...)
	for _, x := range a.Claims {
		if x.A < number && x.B < number {
			first.Claims = append(first.Claims, x)
		}
	}
	return first
}

// lists are all lists of slide numbers of so many reports, the least one first.
func lists(reports int) [][]int {
	all := [][]int{nil}
	for range reports {
		var longer [][]int
		for _, l := range all {
			for slide := 0; slide <= slides(l); slide++ {
				longer = append(longer, append(slices.Clone(l), slide))
			}
		}
		all = longer
	}
	return all
}

func slides(list []int) int {
	if len(list) == 0 {
		return 0
	}
	return slices.Max(list) + 1
}

// orders are all orders of so many things.
func orders(number int) [][]int {
	all := [][]int{nil}
	for x := range number {
		var longer [][]int
		for _, l := range all {
			for at := 0; at <= len(l); at++ {
				longer = append(longer, slices.Insert(slices.Clone(l), at, x))
			}
		}
		all = longer
	}
	return all
}

// knownByOrders tries each list of slide numbers, and each order of the slides: in it days are as early as they may be, or as late.
func knownByOrders(a annals.Annals) known {
	var k known
	for _, list := range lists(len(a.Reports)) {
		for _, order := range orders(slides(list)) {
			early := daysIn(a, list, order)
			slices.Reverse(order)
			late := turned(daysIn(turnedAnnals(a), list, order))
			for _, days := range [][]int{early, late} {
				if isRight(a, list, days) {
					k.add(list, days)
				}
			}
		}
	}
	return k
}

// daysIn has the least day of each report, if slides of one slope and slides of which one is before the other are in this order.
func daysIn(a annals.Annals, list, order []int) []int {
	days := make([]int, len(list))
	for at, slide := range order {
		day := 0
		for i, r := range a.Reports {
			if list[i] != slide {
				continue
			}
			day = max(day, r.When.Lo)
			for k, other := range a.Reports {
				if !slices.Contains(order[:at], list[k]) {
					continue
				}
				if other.Slope == r.Slope {
					day = max(day, days[k]+max(a.Rest, 1))
				}
				if slices.Contains(a.Claims, claim(annals.Before, k, i)) {
					day = max(day, days[k]+1)
				}
			}
		}
		for i := range list {
			if list[i] == slide {
				days[i] = day
			}
		}
	}
	return days
}

func turned(days []int) []int {
	var l []int
	for _, day := range days {
		l = append(l, api.MaxEpoch-day)
	}
	return l
}

// turnedAnnals let the days run from the last one to the first.
func turnedAnnals(a annals.Annals) annals.Annals {
	b := annals.Annals{Rest: a.Rest}
	for _, r := range a.Reports {
		b.Reports = append(b.Reports, report(r.Slope, api.MaxEpoch-r.When.Hi, api.MaxEpoch-r.When.Lo))
	}
	for _, x := range a.Claims {
		if x.Kind == annals.Before {
			x.A, x.B = x.B, x.A
		}
		b.Claims = append(b.Claims, x)
	}
	return b
}

// wrongOf tries all sets of statements.
func wrongOf(a annals.Annals) []int {
	var best []int
	found := false
	number := len(a.Reports) + len(a.Claims)
	for set := range 1 << number {
		var l []int
		for x := range number {
			if set>>x&1 == 1 {
				l = append(l, x)
			}
		}
		if found && (len(l) > len(best) || len(l) == len(best) && slices.Compare(l, best) >= 0) {
			continue
		}
		if knownByOrders(lessOf(a, l)).canBe() {
			best, found = l, true
		}
	}
	return best
}

// lessOf are annals without some statements.
func lessOf(a annals.Annals, statements []int) annals.Annals {
	b := annals.Annals{Rest: a.Rest}
	for i, r := range a.Reports {
		if slices.Contains(statements, i) {
			r.When = to(0, api.MaxEpoch)
		}
		b.Reports = append(b.Reports, r)
	}
	for i, x := range a.Claims {
		if !slices.Contains(statements, len(a.Reports)+i) {
			b.Claims = append(b.Claims, x)
		}
	}
	return b
}

func anyRange(r *rand.Rand, most int) annals.Range {
	low := r.Intn(most + 1)
	return to(low, low+r.Intn(most-low+1))
}

func anyClaims(r *rand.Rand, reports, number int) []annals.Claim {
	var l []annals.Claim
	for range number {
		a, b := r.Intn(reports), r.Intn(reports)
		if a != b {
			l = append(l, claim(uint8(r.Intn(3)), a, b))
		}
	}
	return l
}

// anyAnnals have days up to the greatest one that is given.
func anyAnnals(r *rand.Rand, reports, claims, most int) annals.Annals {
	a := annals.Annals{Rest: r.Intn(most/2 + 1), Claims: anyClaims(r, reports, claims)}
	sites := 1 + r.Intn(3)
	for range reports {
		a.Reports = append(a.Reports, annals.Report{Slope: r.Intn(sites), When: anyRange(r, most)})
	}
	return a
}

// smallAnnals are such that each day can be tried.
func smallAnnals(r *rand.Rand) annals.Annals {
	a := anyAnnals(r, 1+r.Intn(4), r.Intn(5), 1+r.Intn(7))
	if r.Intn(4) == 0 {
		return turnedAnnals(a)
	}
	return a
}

// wideAnnals have any days.
func wideAnnals(r *rand.Rand, reports int) annals.Annals {
	return anyAnnals(r, reports, r.Intn(6), []int{20, 1000, api.MaxEpoch}[r.Intn(3)])
}

// told are annals with what truly was.
type told struct {
	annals.Annals
	truth annals.Chronicle
}

// anyTold are annals of slides that truly were: no statement is wrong.
func anyTold(r *rand.Rand, reports, claims int) told {
	most := []int{20, 1000, api.MaxEpoch}[r.Intn(3)]
	t := told{Annals: annals.Annals{Rest: r.Intn(most / 8)}}
	type slide struct{ slope, day int }
	var known []slide
	for len(t.Reports) < reports {
		x := slide{r.Intn(3), r.Intn(most + 1)}
		if len(known) > 0 && r.Intn(3) == 0 {
			x = known[r.Intn(len(known))]
		}
		if slices.ContainsFunc(known, func(y slide) bool { return x != y && x.slope == y.slope && apart(x.day, y.day) < max(t.Rest, 1) }) {
			continue
		}
		if !slices.Contains(known, x) {
			known = append(known, x)
		}
		when := to(x.day-min(r.Intn(most/3), x.day), min(x.day+r.Intn(most/3), api.MaxEpoch))
		t.Reports = append(t.Reports, annals.Report{Slope: x.slope, When: when})
		t.truth.Slides = append(t.truth.Slides, slices.Index(known, x))
		t.truth.Days = append(t.truth.Days, x.day)
	}
	for _, x := range anyClaims(r, reports, claims) {
		if claimHolds(x, t.truth.Slides, t.truth.Days) {
			t.Claims = append(t.Claims, x)
		}
	}
	return t
}

// mayBe asks Find whether annals can be.
func mayBe(t *testing.T, a annals.Annals) bool {
	t.Helper()
	c, e := annals.Find(a)
	switch {
	case e == api.OK && isRight(a, c.Slides, c.Days):
		return true
	case e == api.ErrFail && len(c.Slides) == 0 && len(c.Days) == 0:
		return false
	}
	t.Fatal("Find:", a, c, e)
	return false
}
