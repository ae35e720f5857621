package annals_test

import (
	"math"
	"math/rand"
	"reflect"
	"slices"
	"testing"

	"sackung/annals"
	"sackung/api"
)

// holdsAgainst asks all that is known of annals, and counts those that can be.
func holdsAgainst(t *testing.T, a annals.Annals, k known) int {
	t.Helper()
	if mayBe(t, a) != k.canBe() {
		t.Fatal("Find:", a)
	}
	want, many := api.OK, len(k.ways) > api.MaxWays
	if !k.canBe() {
		want = api.ErrFail
	}
	if l, e := annals.Days(a); !slices.Equal(l, k.days) || e != want {
		t.Fatal("Days:", a, l, e, k.days)
	}
	for i := range a.Reports {
		for j := range i {
			n, e := annals.Surely(a, i, j)
			if e != want || k.canBe() && n != k.surely(i, j) || !k.canBe() && n != 0 {
				t.Fatal("Surely:", a, i, j, n, e)
			}
		}
	}
	l, e := annals.Ways(a)
	switch {
	case many && (len(l) != 0 || e != api.ErrLimit):
		t.Fatal("Ways:", a, l, e)
	case !many && (!slices.EqualFunc(l, k.ways, slices.Equal) || e != want):
		t.Fatal("Ways:", a, l, e, k.ways)
	}
	if k.canBe() {
		return 1
	}
	return 0
}

func TestP5_1To4OfSmallAnnals(t *testing.T) {
	r := chance()
	possible := 0
	for range 3000 {
		a := smallAnnals(r)
		possible += holdsAgainst(t, a, knownByDays(a))
	}
	if possible < 500 || possible > 2500 {
		t.Error("too few, or too many:", possible)
	}
}

func TestP5_1To4OfWideAnnals(t *testing.T) {
	r := chance()
	possible := 0
	for range 1500 {
		a := wideAnnals(r, 2+r.Intn(4))
		possible += holdsAgainst(t, a, knownByOrders(a))
	}
	for range 300 {
		a := anyTold(r, 3+r.Intn(3), r.Intn(6)).Annals
		possible += holdsAgainst(t, a, knownByOrders(a))
	}
	for range 12 {
		a := anyTold(r, 7, r.Intn(12)).Annals
		possible += holdsAgainst(t, a, knownByOrders(a))
	}
	if possible < 600 || possible > 1500 {
		t.Error("too few, or too many:", possible)
	}
}

func TestP5_1ProveChronicleOfAny(t *testing.T) {
	r := chance()
	proved := 0
	for range 20000 {
		x := anyTold(r, 1+r.Intn(5), r.Intn(8))
		c := x.truth
		i := r.Intn(len(x.Reports))
		switch r.Intn(6) {
		case 0:
			c.Days[i] += r.Intn(2*x.Rest+3) - x.Rest - 1
		case 1:
			c.Slides[i] = r.Intn(len(c.Slides)+2) - 1
		case 2:
			c.Days[i] = c.Days[0]
		case 3:
			x.Claims = append(x.Claims, anyClaims(r, len(x.Reports), 2)...)
		case 4:
			x.Reports[i].Slope = r.Intn(3)
		}
		want := isRight(x.Annals, c.Slides, c.Days)
		if annals.ProveChronicle(x.Annals, c) != want {
			t.Fatal(x.Annals, c, want)
		}
		if want {
			proved++
		}
	}
	if proved < 5000 || proved > 15000 {
		t.Error("too few, or too many:", proved)
	}
}

func TestP5_5WrongOfAny(t *testing.T) {
	r := chance()
	sizes := map[int]int{}
	for range 250 {
		a := wideAnnals(r, 2+r.Intn(3))
		a.Claims = append(a.Claims, anyClaims(r, len(a.Reports), 3)...)
		a.Claims = a.Claims[:min(len(a.Claims), 5)]
		want := wrongOf(a)
		l, e := annals.Wrong(a)
		if len(want) == 0 {
			if len(l) != 0 || e != api.ErrNone {
				t.Fatal(a, l, e)
			}
		} else if !slices.Equal(l, want) || e != api.OK {
			t.Fatal(a, l, e, want)
		}
		sizes[len(want)]++
	}
	if sizes[0] < 20 || sizes[1] < 50 || sizes[2] < 20 || sizes[3] < 2 {
		t.Error("too few:", sizes)
	}
}

func TestP5_5WithoutOfAny(t *testing.T) {
	r := chance()
	for range 2000 {
		a := wideAnnals(r, 1+r.Intn(7))
		var l []int
		for x := range len(a.Reports) + len(a.Claims) {
			if r.Intn(3) == 0 {
				l = append(l, x)
			}
		}
		if b, e := annals.Without(a, l); !equalAnnals(b, lessOf(a, l)) || e != api.OK {
			t.Fatal(a, l, b, e)
		}
	}
}

// known are the results of the calls that tell what is known; there are no ways if they are too many.
func knownOf(t *testing.T, a annals.Annals) known {
	t.Helper()
	days, e := annals.Days(a)
	if e != api.OK || len(days) != len(a.Reports) {
		t.Fatal("Days:", a, days, e)
	}
	ways, e := annals.Ways(a)
	if e != api.OK && e != api.ErrLimit || (e == api.OK) != (len(ways) > 0) {
		t.Fatal("Ways:", a, ways, e)
	}
	return known{ways, days}
}

func surely(t *testing.T, a annals.Annals, i, k int) uint8 {
	t.Helper()
	n, e := annals.Surely(a, i, k)
	if e != api.OK {
		t.Fatal("Surely:", a, i, k, n, e)
	}
	return n
}

func hasWay(ways [][]int, slides []int) bool {
	return slices.ContainsFunc(ways, func(l []int) bool { return slices.Equal(l, slides) })
}

func TestP5_6WhateverWas(t *testing.T) {
	r := chance()
	listed, sure := 0, 0
	for range 1500 {
		x := anyTold(r, 1+r.Intn(7), r.Intn(20))
		if !annals.ProveChronicle(x.Annals, x.truth) {
			t.Fatal(x)
		}
		k := knownOf(t, x.Annals)
		if len(k.ways) > 0 {
			listed++
			if !hasWay(k.ways, x.truth.Slides) {
				t.Fatal(x, k.ways)
			}
		}
		for i, day := range x.truth.Days {
			if day < k.days[i].Lo || day > k.days[i].Hi {
				t.Fatal(x, i, k.days)
			}
			for j := range i {
				n, same := surely(t, x.Annals, i, j), x.truth.Slides[i] == x.truth.Slides[j]
				if n == annals.Same && !same || n == annals.Other && same {
					t.Fatal(x, i, j, n)
				}
				if n == annals.Same {
					sure++
				}
			}
		}
	}
	if listed < 1000 || sure < 100 {
		t.Error("too few:", listed, sure)
	}
}

// onlyOn are the annals with other days of a report.
func onlyOn(a annals.Annals, report int, when annals.Range) annals.Annals {
	b := with(a)
	b.Reports[report].When = when
	return b
}

func TestP5_7EachEnd(t *testing.T) {
	r := chance()
	outside := 0
	for range 400 {
		a := anyTold(r, 1+r.Intn(7), r.Intn(10)).Annals
		for i, d := range knownOf(t, a).days {
			when := a.Reports[i].When
			for _, day := range []int{d.Lo, d.Hi} {
				if !mayBe(t, onlyOn(a, i, to(day, day))) {
					t.Fatal("an end:", a, i, day)
				}
			}
			for _, day := range []int{when.Lo, d.Lo - 1, d.Hi + 1, when.Hi, when.Lo + r.Intn(when.Hi-when.Lo+1)} {
				if day < when.Lo || day > when.Hi || day >= d.Lo && day <= d.Hi {
					continue
				}
				outside++
				if mayBe(t, onlyOn(a, i, to(day, day))) {
					t.Fatal("outside:", a, i, day, d)
				}
			}
			if when.Lo < d.Lo && mayBe(t, onlyOn(a, i, to(when.Lo, d.Lo-1))) || d.Hi < when.Hi && mayBe(t, onlyOn(a, i, to(d.Hi+1, when.Hi))) {
				t.Fatal("days outside:", a, i, d)
			}
		}
	}
	if outside < 300 {
		t.Error("too few:", outside)
	}
}

// claimsOf are the claims that leave one list of slide numbers alone.
func claimsOf(list []int) []annals.Claim {
	var l []annals.Claim
	var firsts []int
	for i, slide := range list {
		if slide < len(firsts) {
			if i != firsts[slide] {
				l = append(l, claim(annals.Same, i, firsts[slide]))
			}
			continue
		}
		for _, first := range firsts {
			l = append(l, claim(annals.Other, first, i))
		}
		firsts = append(firsts, i)
	}
	return l
}

func TestP5_8EachWay(t *testing.T) {
	r := chance()
	ways, none := 0, 0
	for range 400 {
		a := wideAnnals(r, 1+r.Intn(6))
		if r.Intn(2) == 0 {
			a = anyTold(r, 1+r.Intn(6), r.Intn(6)).Annals
		}
		listed, e := annals.Ways(a)
		for _, l := range lists(len(a.Reports)) {
			b := with(a, claimsOf(l)...)
			if len(b.Claims) > api.MaxClaims || e == api.ErrLimit {
				continue
			}
			way := hasWay(listed, l)
			if mayBe(t, b) != way {
				t.Fatal(a, l)
			}
			if !way {
				none++
				continue
			}
			ways++
			if one, e := annals.Ways(b); len(one) != 1 || !slices.Equal(one[0], l) || e != api.OK {
				t.Fatal(b, one, e)
			}
		}
	}
	if ways < 300 || none < 1000 {
		t.Error("too few:", ways, none)
	}
}

func TestP5_9OneClaimMore(t *testing.T) {
	r := chance()
	less := 0
	for range 1500 {
		a := anyTold(r, 2+r.Intn(5), r.Intn(5)).Annals
		b := with(a, anyClaims(r, len(a.Reports), 3)...)
		b.Claims = b.Claims[:min(len(b.Claims), len(a.Claims)+1)]
		if !mayBe(t, b) {
			continue
		}
		k, l := knownOf(t, a), knownOf(t, b)
		if len(l.ways) < len(k.ways) {
			less++
		}
		for _, way := range l.ways {
			if len(k.ways) > 0 && !hasWay(k.ways, way) {
				t.Fatal(a, b, way)
			}
		}
		for i, d := range l.days {
			if d.Lo < k.days[i].Lo || d.Hi > k.days[i].Hi {
				t.Fatal(a, b, i, k.days[i], d)
			}
			for j := range i {
				if n := surely(t, a, i, j); n != annals.Open && n != surely(t, b, i, j) {
					t.Fatal(a, b, i, j)
				}
			}
		}
	}
	if less < 200 {
		t.Error("too few:", less)
	}
}

func TestP5_10WhatMustBeWrong(t *testing.T) {
	r := chance()
	many := 0
	for range 300 {
		reports := 2 + r.Intn(6)
		a := anyAnnals(r, reports, 14-reports, []int{20, 1000, api.MaxEpoch}[r.Intn(3)])
		a.Claims = a.Claims[:min(len(a.Claims), 12-reports)]
		l, e := annals.Wrong(a)
		if e == api.ErrNone {
			continue
		}
		if e != api.OK {
			t.Fatal(a, l, e)
		}
		if len(l) > 1 {
			many++
		}
		without := func(statements []int) bool {
			b, e := annals.Without(a, statements)
			return e == api.OK && mayBe(t, b)
		}
		if !without(l) {
			t.Fatal(a, l)
		}
		for i := range l {
			if without(slices.Delete(slices.Clone(l), i, i+1)) {
				t.Fatal("one less:", a, l, i)
			}
		}
		for range 100 {
			shorter := r.Perm(len(a.Reports) + len(a.Claims))[:len(l)-1]
			slices.Sort(shorter)
			if without(shorter) {
				t.Fatal("shorter:", a, l, shorter)
			}
		}
	}
	if many < 50 {
		t.Error("too few:", many)
	}
}

func TestP5_11Order(t *testing.T) {
	r := chance()
	for range 500 {
		a := anyTold(r, 2+r.Intn(6), r.Intn(10)).Annals
		order := r.Perm(len(a.Reports))
		b := annals.Annals{Reports: make([]annals.Report, len(a.Reports)), Rest: a.Rest}
		for from, at := range order {
			b.Reports[at] = a.Reports[from]
		}
		for _, x := range a.Claims {
			b.Claims = append(b.Claims, claim(x.Kind, order[x.A], order[x.B]))
		}
		r.Shuffle(len(b.Claims), func(i, k int) { b.Claims[i], b.Claims[k] = b.Claims[k], b.Claims[i] })
		k, l := knownOf(t, a), knownOf(t, b)
		if len(k.ways) != len(l.ways) {
			t.Fatal(a, b, k.ways, l.ways)
		}
		for i := range a.Reports {
			if k.days[i] != l.days[order[i]] {
				t.Fatal(a, b, k.days, l.days)
			}
			for j := range i {
				if surely(t, a, i, j) != surely(t, b, order[i], order[j]) {
					t.Fatal(a, b, i, j)
				}
			}
		}
	}
}

func TestP5_12Slopes(t *testing.T) {
	r := chance()
	different := 0
	for range 500 {
		a := anyTold(r, 2+r.Intn(6), r.Intn(10)).Annals
		for i := range a.Reports {
			for j := range a.Reports {
				if a.Reports[i].Slope == a.Reports[j].Slope {
					continue
				}
				different++
				if surely(t, a, i, j) != annals.Other {
					t.Fatal(a, i, j)
				}
			}
		}
	}
	if different < 1000 {
		t.Error("too few:", different)
	}
}

// lent are arguments of all calls, with memory behind their lists.
type lent struct {
	a          annals.Annals
	c          annals.Chronicle
	statements []int
}

// spare is a copy with elements behind its end, which no call may change.
func spare[T any](l []T, behind ...T) []T {
	return append(slices.Clone(l), behind...)[:len(l)]
}

func anyLent(r *rand.Rand) lent {
	x := anyTold(r, 1+r.Intn(4), r.Intn(8))
	if r.Intn(2) == 0 {
		x.Claims = append(x.Claims, anyClaims(r, len(x.Reports), 4)...)
	}
	return lent{
		annals.Annals{Reports: spare(x.Reports, report(9, 7, 8), report(8, 1, 2)), Claims: spare(x.Claims, claim(7, 7, 7), claim(8, 8, 8)), Rest: x.Rest},
		annals.Chronicle{Slides: spare(x.truth.Slides, 77, 78), Days: spare(x.truth.Days, 77, 78)},
		spare([]int{0}, 77, 78),
	}
}

// whole is all that the arguments have, with what lies behind their lists.
func (x lent) whole() []any {
	behind := func(l []int) []int { return slices.Clone(l[:cap(l)]) }
	return []any{len(x.a.Reports), len(x.a.Claims), x.a.Rest, slices.Clone(x.a.Reports[:cap(x.a.Reports)]), slices.Clone(x.a.Claims[:cap(x.a.Claims)]),
		behind(x.c.Slides), behind(x.c.Days), behind(x.statements)}
}

func (x lent) results() []any {
	var out []any
	keep := func(l ...any) { out = append(out, l...) }
	c, e1 := annals.Find(x.a)
	ways, e2 := annals.Ways(x.a)
	days, e3 := annals.Days(x.a)
	wrong, e4 := annals.Wrong(x.a)
	left, e5 := annals.Without(x.a, x.statements)
	keep(annals.CheckAnnals(x.a), annals.ProveChronicle(x.a, x.c), c, e1, ways, e2, days, e3, wrong, e4, left, e5)
	for i := range x.a.Reports {
		n, e := annals.Surely(x.a, 0, i)
		keep(n, e)
	}
	return out
}

func TestR4ArgumentsStayAndResultsAreTheSameAgain(t *testing.T) {
	r := chance()
	for range 500 {
		x := anyLent(r)
		before := x.whole()
		first := x.results()
		if !reflect.DeepEqual(before, x.whole()) {
			t.Fatal("changed:", x)
		}
		anyLent(r).results()
		if !reflect.DeepEqual(first, x.results()) {
			t.Fatal("not the same again:", x)
		}
	}
}

func TestR4ResultsShareNoMemory(t *testing.T) {
	a := valley()
	c, _ := annals.Find(a)
	ways, _ := annals.Ways(a)
	days, _ := annals.Days(a)
	whole, _ := annals.Without(a, nil)
	for i := range a.Reports {
		c.Slides[i], c.Days[i], days[i], whole.Reports[i] = 99, 99, to(9, 9), report(9, 9, 9)
	}
	for i := range whole.Claims {
		whole.Claims[i] = claim(9, 9, 9)
	}
	for i := range ways[0] {
		ways[0][i] = 99
	}
	if !slices.Equal(ways[1], []int{0, 1, 2, 3}) || !equalAnnals(a, valley()) {
		t.Error(ways, a)
	}
	if k := knownOf(t, a); !slices.Equal(k.ways[0], []int{0, 1, 2, 1}) || k.days[0] != to(100, 120) {
		t.Error(k)
	}
}

func TestR3NilListsAreEmptyOnes(t *testing.T) {
	for _, claims := range [][]annals.Claim{nil, {}} {
		a := annals.Annals{Reports: []annals.Report{report(1, 3, 4)}, Claims: claims}
		if k := knownOf(t, a); len(k.ways) != 1 || !slices.Equal(k.days, []annals.Range{to(3, 4)}) {
			t.Error(k)
		}
		for _, statements := range [][]int{nil, {}} {
			if b, e := annals.Without(a, statements); !equalAnnals(a, b) || e != api.OK {
				t.Error(b, e)
			}
		}
		for _, reports := range [][]annals.Report{nil, {}} {
			for _, l := range [][]int{nil, {}} {
				b := annals.Annals{Reports: reports, Claims: claims}
				if annals.ProveChronicle(b, annals.Chronicle{Slides: l, Days: l}) || annals.CheckAnnals(b) != api.ErrArg {
					t.Error(b)
				}
			}
		}
	}
}

func TestP1LimitsAtOnce(t *testing.T) {
	r := chance()
	for range 300 {
		x := anyTold(r, 7, 90)
		x.Claims = x.Claims[:min(len(x.Claims), 30)]
		knownOf(t, x.Annals)
		surely(t, x.Annals, 0, 6)
		a := annals.Annals{Reports: x.Reports, Claims: anyClaims(r, 7, 5), Rest: api.MaxEpoch / (1 + r.Intn(20))}
		if l, e := annals.Wrong(a); e != api.OK && e != api.ErrNone {
			t.Fatal(a, l, e)
		}
	}
}

func TestP1AnyArguments(t *testing.T) {
	r := chance()
	numbers := []int{math.MinInt, math.MinInt + 1, -100001, -1, 0, 1, 2, 3, 7, 9, 10, 99999, 100000, 100001, math.MaxInt - 1, math.MaxInt}
	any := func() int { return numbers[r.Intn(len(numbers))] }
	list := func() []int {
		l := make([]int, r.Intn(4))
		for i := range l {
			l[i] = any()
		}
		return l
	}
	for range 50000 {
		a := annals.Annals{Rest: any()}
		for range r.Intn(4) {
			a.Reports = append(a.Reports, report(any(), any(), any()))
		}
		if r.Intn(2) == 0 {
			a = anyTold(r, 1+r.Intn(4), 2).Annals
		}
		for range r.Intn(3) {
			a.Claims = append(a.Claims, claim(uint8(r.Intn(256)), any(), any()))
		}
		annals.CheckAnnals(a)
		annals.Find(a)
		annals.ProveChronicle(a, annals.Chronicle{Slides: list(), Days: list()})
		annals.Ways(a)
		annals.Days(a)
		annals.Surely(a, any(), any())
		annals.Wrong(a)
		annals.Without(a, list())
	}
}
