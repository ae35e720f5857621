package annals_test

import (
	"math"
	"slices"
	"testing"

	"sackung/annals"
	"sackung/api"
)

func TestP5_1ValidAnnals(t *testing.T) {
	for name, change := range map[string]func(a *annals.Annals){
		"the valley":     func(a *annals.Annals) {},
		"one report":     func(a *annals.Annals) { *a = of(0, report(0, 0, 0)) },
		"most reports":   func(a *annals.Annals) { a.Reports = slices.Repeat([]annals.Report{report(9, 0, 100000)}, 7) },
		"no claims":      func(a *annals.Annals) { a.Claims = nil },
		"most claims":    func(a *annals.Annals) { a.Claims = slices.Repeat(a.Claims, 15) },
		"no rest":        func(a *annals.Annals) { a.Rest = 0 },
		"most rest":      func(a *annals.Annals) { a.Rest = 100000 },
		"the first day":  func(a *annals.Annals) { a.Reports[1].When = to(0, 0) },
		"the last day":   func(a *annals.Annals) { a.Reports[1].When = to(100000, 100000) },
		"the last slope": func(a *annals.Annals) { a.Reports[3].Slope = 9 },
		"each claim": func(a *annals.Annals) {
			a.Claims = []annals.Claim{claim(annals.Before, 0, 3), claim(annals.Same, 3, 0), claim(annals.Other, 2, 3)}
		},
		"annals that cannot be": func(a *annals.Annals) { *a = never() },
	} {
		a := valley()
		change(&a)
		if e := annals.CheckAnnals(a); e != api.OK {
			t.Error(name, e)
		}
	}
}

func invalidAnnals() map[string]func(a *annals.Annals) {
	return map[string]func(a *annals.Annals){
		"nothing":               func(a *annals.Annals) { *a = annals.Annals{} },
		"no reports":            func(a *annals.Annals) { a.Reports, a.Claims = []annals.Report{}, nil },
		"no reports, but Rest":  func(a *annals.Annals) { *a = annals.Annals{Rest: 5} },
		"a slope below":         func(a *annals.Annals) { a.Reports[0].Slope = -1 },
		"a slope above":         func(a *annals.Annals) { a.Reports[3].Slope = 10 },
		"a wild slope":          func(a *annals.Annals) { a.Reports[3].Slope = math.MinInt },
		"a day below":           func(a *annals.Annals) { a.Reports[2].When = to(-1, 5) },
		"a day above":           func(a *annals.Annals) { a.Reports[3].When = to(5, 100001) },
		"days above":            func(a *annals.Annals) { a.Reports[3].When = to(100001, 100001) },
		"days below":            func(a *annals.Annals) { a.Reports[3].When = to(-1, -1) },
		"days turned round":     func(a *annals.Annals) { a.Reports[0].When = to(6, 5) },
		"wild days":             func(a *annals.Annals) { a.Reports[0].When = to(math.MinInt, math.MaxInt) },
		"wild days turned":      func(a *annals.Annals) { a.Reports[0].When = to(math.MaxInt, math.MinInt) },
		"rest below":            func(a *annals.Annals) { a.Rest = -1 },
		"rest above":            func(a *annals.Annals) { a.Rest = 100001 },
		"wild rest":             func(a *annals.Annals) { a.Rest = math.MaxInt },
		"no such kind":          func(a *annals.Annals) { a.Claims[0].Kind = annals.Open },
		"a wild kind":           func(a *annals.Annals) { a.Claims[1].Kind = 255 },
		"a claim of one report": func(a *annals.Annals) { a.Claims[1] = claim(annals.Same, 2, 2) },
		"a first report below":  func(a *annals.Annals) { a.Claims[0].A = -1 },
		"a first report above":  func(a *annals.Annals) { a.Claims[0].A = 4 },
		"a second report below": func(a *annals.Annals) { a.Claims[1].B = -1 },
		"a second report above": func(a *annals.Annals) { a.Claims[1].B = 4 },
		"wild reports":          func(a *annals.Annals) { a.Claims[1] = claim(annals.Before, math.MinInt, math.MaxInt) },
	}
}

// refused asks all calls for an error; those with more arguments, also for what is an error of theirs, as the one of the annals comes before it.
func refused(t *testing.T, name string, a annals.Annals, want api.Errno) {
	t.Helper()
	if e := annals.CheckAnnals(a); e != want {
		t.Error("CheckAnnals:", name, e)
	}
	if c, e := annals.Find(a); len(c.Slides) != 0 || len(c.Days) != 0 || e != want {
		t.Error("Find:", name, c, e)
	}
	if l, e := annals.Ways(a); len(l) != 0 || e != want {
		t.Error("Ways:", name, l, e)
	}
	if l, e := annals.Days(a); len(l) != 0 || e != want {
		t.Error("Days:", name, l, e)
	}
	for _, second := range []int{1, 0, -1, len(a.Reports)} {
		if n, e := annals.Surely(a, 0, second); n != 0 || e != want {
			t.Error("Surely:", name, second, n, e)
		}
	}
	if l, e := annals.Wrong(a); len(l) != 0 || e != want {
		t.Error("Wrong:", name, l, e)
	}
	for _, statements := range [][]int{nil, {0}, {1, 0}, {1000}} {
		if b, e := annals.Without(a, statements); len(b.Reports) != 0 || len(b.Claims) != 0 || b.Rest != 0 || e != want {
			t.Error("Without:", name, statements, b, e)
		}
	}
	if annals.ProveChronicle(a, annals.Chronicle{Slides: make([]int, len(a.Reports)), Days: make([]int, len(a.Reports))}) {
		t.Error("ProveChronicle:", name)
	}
}

func TestP5_1InvalidAnnals(t *testing.T) {
	for name, change := range invalidAnnals() {
		a := valley()
		change(&a)
		refused(t, name, a, api.ErrArg)
	}
}

func TestP5_1TooMuch(t *testing.T) {
	for name, change := range map[string]func(a *annals.Annals){
		"too many reports":          func(a *annals.Annals) { a.Reports = slices.Repeat(a.Reports, 2) },
		"many reports":              func(a *annals.Annals) { a.Reports = make([]annals.Report, 100000) },
		"too many claims":           func(a *annals.Annals) { a.Claims = slices.Repeat(a.Claims[:1], 31) },
		"many claims":               func(a *annals.Annals) { a.Claims = make([]annals.Claim, 100000) },
		"claims without reports":    func(a *annals.Annals) { *a = annals.Annals{Claims: make([]annals.Claim, 31)} },
		"reports, and a wild rest":  func(a *annals.Annals) { a.Reports, a.Rest = slices.Repeat(a.Reports, 2), -5 },
		"reports that are not good": func(a *annals.Annals) { a.Reports = slices.Repeat([]annals.Report{report(-1, 6, 5)}, 8) },
	} {
		a := valley()
		change(&a)
		refused(t, name, a, api.ErrLimit)
	}
}

func TestP5_1Find(t *testing.T) {
	for name, a := range seen() {
		if !mayBe(t, a.Annals) {
			t.Error(name)
		}
		if c, e := annals.Find(a.Annals); e != api.OK || !annals.ProveChronicle(a.Annals, c) {
			t.Error(name, c, e)
		}
	}
	for name, a := range contradictions() {
		if mayBe(t, a) {
			t.Error(name)
		}
	}
}

func TestP5_1ProveChronicle(t *testing.T) {
	at := func(slide, day int) [2]int { return [2]int{slide, day} }
	for _, x := range []struct {
		name string
		want bool
		told [][2]int
	}{
		{"the second and the last are the same", true, [][2]int{at(0, 110), at(1, 150), at(2, 109), at(1, 150)}},
		{"all others", true, [][2]int{at(0, 110), at(1, 190), at(2, 109), at(3, 160)}},
		{"a rest, just so", true, [][2]int{at(0, 120), at(1, 190), at(2, 90), at(3, 160)}},
		{"a rest too short", false, [][2]int{at(0, 120), at(1, 189), at(2, 90), at(3, 160)}},
		{"a rest too short before", false, [][2]int{at(0, 120), at(1, 149), at(2, 90), at(3, 155)}},
		{"a day of one, another of the other", false, [][2]int{at(0, 110), at(1, 150), at(2, 109), at(1, 151)}},
		{"one day, two slides", false, [][2]int{at(0, 110), at(1, 150), at(2, 109), at(3, 150)}},
		{"slopes that are not the same", false, [][2]int{at(0, 110), at(1, 150), at(0, 110), at(1, 150)}},
		{"not before", false, [][2]int{at(0, 110), at(1, 150), at(2, 110), at(1, 150)}},
		{"long behind", false, [][2]int{at(0, 110), at(1, 150), at(2, 130), at(1, 150)}},
		{"what is another one", false, [][2]int{at(0, 115), at(0, 115), at(1, 109), at(2, 150)}},
		{"before the days", false, [][2]int{at(0, 99), at(1, 150), at(2, 95), at(1, 150)}},
		{"behind the days", false, [][2]int{at(0, 110), at(1, 150), at(2, 109), at(3, 161)}},
		{"the first of the days", true, [][2]int{at(0, 100), at(1, 150), at(2, 90), at(1, 150)}},
		{"the last of the days", true, [][2]int{at(0, 120), at(1, 160), at(2, 119), at(1, 160)}},
		{"no first number", false, [][2]int{at(1, 110), at(2, 150), at(3, 109), at(2, 150)}},
		{"a number left out", false, [][2]int{at(0, 110), at(2, 150), at(3, 109), at(2, 150)}},
		{"numbers not in order", false, [][2]int{at(0, 110), at(2, 150), at(1, 109), at(2, 150)}},
		{"a number below", false, [][2]int{at(0, 110), at(-1, 150), at(1, 109), at(-1, 150)}},
		{"wild numbers", false, [][2]int{at(math.MinInt, 110), at(math.MaxInt, 150), at(1, 109), at(math.MaxInt, 150)}},
		{"wild days", false, [][2]int{at(0, math.MinInt), at(1, math.MaxInt), at(2, math.MinInt), at(3, math.MaxInt)}},
		{"a report less", false, [][2]int{at(0, 110), at(1, 150), at(2, 109)}},
		{"a report more", false, [][2]int{at(0, 110), at(1, 150), at(2, 109), at(1, 150), at(1, 150)}},
		{"no reports", false, nil},
	} {
		var c annals.Chronicle
		for _, y := range x.told {
			c.Slides, c.Days = append(c.Slides, y[0]), append(c.Days, y[1])
		}
		if annals.ProveChronicle(valley(), c) != x.want {
			t.Error(x.name)
		}
	}
	slides, days := []int{0, 1, 2, 1}, []int{110, 150, 109, 150}
	for name, c := range map[string]annals.Chronicle{"a slide less": {Slides: slides[:3], Days: days}, "a day less": {Slides: slides, Days: days[:3]}, "slides alone": {Slides: slides}, "days alone": {Days: days},
		"a slide more": {Slides: append(slices.Clone(slides), 3), Days: days}, "a day more": {Slides: slides, Days: append(slices.Clone(days), 150)}} {
		if annals.ProveChronicle(valley(), c) {
			t.Error(name)
		}
	}
}

func TestP5_1ProveChronicleByClaims(t *testing.T) {
	a := of(0, report(1, 0, 9), report(1, 0, 9))
	together, apart := annals.Chronicle{Slides: []int{0, 0}, Days: []int{4, 4}}, annals.Chronicle{Slides: []int{0, 1}, Days: []int{4, 5}}
	for _, x := range []struct {
		claims          []annals.Claim
		together, apart bool
	}{
		{nil, true, true},
		{[]annals.Claim{claim(annals.Before, 0, 1)}, false, true},
		{[]annals.Claim{claim(annals.Before, 1, 0)}, false, false},
		{[]annals.Claim{claim(annals.Same, 0, 1)}, true, false},
		{[]annals.Claim{claim(annals.Same, 1, 0)}, true, false},
		{[]annals.Claim{claim(annals.Other, 0, 1)}, false, true},
		{[]annals.Claim{claim(annals.Other, 1, 0)}, false, true},
		{[]annals.Claim{claim(annals.Other, 0, 1), claim(annals.Before, 0, 1), claim(annals.Same, 0, 1)}, false, false},
	} {
		b := with(a, x.claims...)
		if annals.ProveChronicle(b, together) != x.together || annals.ProveChronicle(b, apart) != x.apart {
			t.Error(x.claims)
		}
	}
}

// sight is what is known of annals.
type sight struct {
	annals.Annals
	known
}

func seen() map[string]sight {
	long := report(1, 0, 1000)
	chain := with(of(100, long, long, long), claim(annals.Before, 0, 1), claim(annals.Before, 1, 2))
	threeWays := [][]int{{0, 0, 1}, {0, 1, 1}, {0, 1, 2}}
	return map[string]sight{
		"the valley":   {valley(), known{[][]int{{0, 1, 2, 1}, {0, 1, 2, 3}}, []annals.Range{to(100, 120), to(130, 200), to(90, 119), to(150, 160)}}},
		"one report":   {of(9, report(3, 5, 7)), known{[][]int{{0}}, []annals.Range{to(5, 7)}}},
		"all days":     {of(100000, report(0, 0, 100000)), known{[][]int{{0}}, []annals.Range{to(0, 100000)}}},
		"two in sight": {of(0, report(1, 0, 9), report(1, 5, 20)), known{[][]int{{0, 0}, {0, 1}}, []annals.Range{to(0, 9), to(5, 20)}}},
		"the one between": {of(10, report(1, 100, 110), report(1, 100, 150), report(1, 140, 150)),
			known{threeWays, []annals.Range{to(100, 110), to(100, 150), to(140, 150)}}},
		"days that do not meet":           {of(0, report(1, 0, 9), report(1, 10, 20)), known{[][]int{{0, 1}}, []annals.Range{to(0, 9), to(10, 20)}}},
		"days that do not meet, and rest": {of(5, report(1, 0, 9), report(1, 10, 12)), known{[][]int{{0, 1}}, []annals.Range{to(0, 7), to(10, 12)}}},
		"one day of both":                 {of(5, report(1, 0, 9), report(1, 9, 12)), known{[][]int{{0, 0}, {0, 1}}, []annals.Range{to(0, 9), to(9, 12)}}},
		"no room for two":                 {of(8, report(1, 5, 9), report(1, 8, 12)), known{[][]int{{0, 0}}, []annals.Range{to(8, 9), to(8, 9)}}},
		"a day without rest":              {with(of(0, report(1, 5, 6), report(1, 5, 6)), claim(annals.Other, 0, 1)), known{[][]int{{0, 1}}, []annals.Range{to(5, 6), to(5, 6)}}},
		"a gap that is not known":         {of(10, report(1, 0, 20), report(1, 10, 10)), known{[][]int{{0, 0}, {0, 1}}, []annals.Range{to(0, 20), to(10, 10)}}},
		"two slopes on one day":           {of(100, report(1, 5, 5), report(2, 5, 5)), known{[][]int{{0, 1}}, []annals.Range{to(5, 5), to(5, 5)}}},
		"two slopes in order":             {with(of(100, report(1, 5, 6), report(2, 5, 6)), claim(annals.Before, 1, 0)), known{[][]int{{0, 1}}, []annals.Range{to(6, 6), to(5, 5)}}},
		"a chain of rests":                {chain, known{[][]int{{0, 1, 2}}, []annals.Range{to(0, 800), to(100, 900), to(200, 1000)}}},
		"a chain of slopes":               {with(of(100, report(1, 0, 9), report(2, 0, 9), report(3, 0, 9)), claim(annals.Before, 2, 1), claim(annals.Before, 1, 0)), known{[][]int{{0, 1, 2}}, []annals.Range{to(2, 9), to(1, 8), to(0, 7)}}},
		"the same, by another":            {with(of(5, report(1, 0, 9), report(1, 3, 20), report(1, 6, 30)), claim(annals.Same, 0, 1), claim(annals.Same, 2, 1)), known{[][]int{{0, 0, 0}}, []annals.Range{to(6, 9), to(6, 9), to(6, 9)}}},
		"others, all of them":             {with(of(10, report(1, 0, 20), report(1, 0, 20), report(1, 0, 20)), claim(annals.Other, 0, 1), claim(annals.Other, 0, 2), claim(annals.Other, 2, 1)), known{[][]int{{0, 1, 2}}, []annals.Range{to(0, 20), to(0, 20), to(0, 20)}}},
		"the longest rest":                {with(of(100000, report(1, 0, 100000), report(1, 0, 100000)), claim(annals.Before, 1, 0)), known{[][]int{{0, 1}}, []annals.Range{to(100000, 100000), to(0, 0)}}},
		"one before both":                 {with(of(1, report(1, 0, 9), report(1, 0, 9), report(2, 4, 9)), claim(annals.Before, 2, 0), claim(annals.Before, 2, 1)), known{[][]int{{0, 0, 1}, {0, 1, 2}}, []annals.Range{to(5, 9), to(5, 9), to(4, 8)}}},
	}
}

func contradictions() map[string]annals.Annals {
	two := of(10, report(1, 0, 100), report(1, 50, 100))
	early := of(10, report(1, 0, 9), report(1, 5, 9))
	return map[string]annals.Annals{
		"before and behind":        with(two, claim(annals.Before, 0, 1), claim(annals.Before, 1, 0)),
		"the same and another":     with(two, claim(annals.Same, 0, 1), claim(annals.Other, 1, 0)),
		"the same and before":      with(two, claim(annals.Same, 0, 1), claim(annals.Before, 0, 1)),
		"no room":                  never(),
		"no room for others":       with(early, claim(annals.Other, 1, 0)),
		"one day for others":       with(of(0, report(1, 5, 5), report(1, 5, 5)), claim(annals.Other, 0, 1)),
		"one day for an order":     with(of(0, report(1, 5, 5), report(2, 5, 5)), claim(annals.Before, 0, 1)),
		"two slopes, the same":     with(of(0, report(1, 5, 9), report(2, 5, 9)), claim(annals.Same, 0, 1)),
		"the same, on no day":      with(of(0, report(1, 5, 9), report(1, 10, 12)), claim(annals.Same, 0, 1)),
		"no rest between the days": of(5, report(1, 5, 6), report(1, 8, 9)),
		"before what is sooner":    with(of(0, report(1, 5, 9), report(2, 1, 5)), claim(annals.Before, 0, 1)),
		"a ring": with(of(0, report(1, 0, 9), report(2, 0, 9), report(3, 0, 9)),
			claim(annals.Before, 0, 1), claim(annals.Before, 1, 2), claim(annals.Before, 2, 0)),
		"the same by others": with(of(0, report(1, 0, 9), report(1, 0, 9), report(1, 0, 9)),
			claim(annals.Same, 0, 1), claim(annals.Same, 1, 2), claim(annals.Other, 2, 0)),
		"three on two days": with(of(0, report(1, 4, 5), report(1, 4, 5), report(1, 4, 5)),
			claim(annals.Other, 0, 1), claim(annals.Other, 1, 2), claim(annals.Other, 2, 0)),
		"the longest rest": of(100000, report(1, 0, 0), report(1, 99999, 99999)),
		"the last claim":   with(two, append(slices.Repeat([]annals.Claim{claim(annals.Before, 0, 1)}, 29), claim(annals.Before, 1, 0))...),
	}
}

func TestP5_2Ways(t *testing.T) {
	for name, a := range seen() {
		if l, e := annals.Ways(a.Annals); !slices.EqualFunc(l, a.ways, slices.Equal) || e != api.OK {
			t.Error(name, l, e)
		}
	}
	for name, a := range contradictions() {
		if l, e := annals.Ways(a); len(l) != 0 || e != api.ErrFail {
			t.Error(name, l, e)
		}
	}
}

// others are seven reports, of which pairs are others.
func others(pairs ...[2]int) annals.Annals {
	a := of(1, slices.Repeat([]annals.Report{report(4, 0, 1000)}, 7)...)
	for _, x := range pairs {
		a.Claims = append(a.Claims, claim(annals.Other, x[0], x[1]))
	}
	return a
}

func TestP5_2WaysAtTheLimit(t *testing.T) {
	hundred := others([2]int{1, 2}, [2]int{0, 4}, [2]int{0, 6}, [2]int{2, 4}, [2]int{5, 6}, [2]int{3, 5}, [2]int{0, 3}, [2]int{1, 5}, [2]int{3, 4})
	more := others([2]int{3, 5}, [2]int{1, 2}, [2]int{4, 6}, [2]int{2, 5}, [2]int{1, 4}, [2]int{4, 5}, [2]int{0, 6}, [2]int{0, 2}, [2]int{5, 6})
	var want [][]int
	for _, l := range lists(7) {
		if slices.IndexFunc(hundred.Claims, func(x annals.Claim) bool { return l[x.A] == l[x.B] }) < 0 {
			want = append(want, l)
		}
	}
	if l, e := annals.Ways(hundred); len(want) != 100 || !slices.EqualFunc(l, want, slices.Equal) || e != api.OK {
		t.Error(len(want), len(l), e)
	}
	for name, a := range map[string]annals.Annals{"one more": more, "all": others()} {
		if l, e := annals.Ways(a); len(l) != 0 || e != api.ErrLimit {
			t.Error(name, l, e)
		}
		if c, e := annals.Find(a); e != api.OK || !annals.ProveChronicle(a, c) {
			t.Error(name, c, e)
		}
		if l, e := annals.Days(a); !slices.Equal(l, slices.Repeat([]annals.Range{to(0, 1000)}, 7)) || e != api.OK {
			t.Error(name, l, e)
		}
		if n, e := annals.Surely(a, 3, 6); n != annals.Open || e != api.OK {
			t.Error(name, n, e)
		}
	}
	// That there are too many ways comes behind that there are none.
	none := others([2]int{0, 1})
	none.Claims = append(none.Claims, claim(annals.Same, 0, 1))
	if l, e := annals.Ways(none); len(l) != 0 || e != api.ErrFail {
		t.Error(l, e)
	}
}

func TestP5_3Days(t *testing.T) {
	for name, a := range seen() {
		if l, e := annals.Days(a.Annals); !slices.Equal(l, a.days) || e != api.OK {
			t.Error(name, l, e)
		}
	}
	for name, a := range contradictions() {
		if l, e := annals.Days(a); len(l) != 0 || e != api.ErrFail {
			t.Error(name, l, e)
		}
	}
}

func TestP5_4Surely(t *testing.T) {
	for name, a := range seen() {
		for i := range a.Reports {
			for k := range a.Reports {
				if i == k {
					continue
				}
				if n, e := annals.Surely(a.Annals, i, k); n != a.surely(i, k) || e != api.OK {
					t.Error(name, i, k, n, e)
				}
			}
		}
	}
	for name, a := range contradictions() {
		if n, e := annals.Surely(a, 1, 0); n != 0 || e != api.ErrFail {
			t.Error(name, n, e)
		}
	}
	for _, x := range []struct {
		first, second int
		want          uint8
	}{{1, 3, annals.Open}, {0, 3, annals.Other}, {0, 2, annals.Other}, {3, 1, annals.Open}} {
		if n, e := annals.Surely(valley(), x.first, x.second); n != x.want || e != api.OK {
			t.Error(x, n, e)
		}
	}
	full := with(of(0, report(1, 0, 9), report(1, 0, 9)), slices.Repeat([]annals.Claim{claim(annals.Same, 0, 1)}, 30)...)
	if n, e := annals.Surely(full, 0, 1); n != annals.Same || e != api.OK {
		t.Error("with all claims:", n, e)
	}
}

func TestP5_4SurelyOfNoReports(t *testing.T) {
	for name, a := range map[string]annals.Annals{"annals that can be": valley(), "annals that cannot": never()} {
		for _, x := range [][2]int{{0, 0}, {1, 1}, {-1, 0}, {0, -1}, {len(a.Reports), 0}, {0, len(a.Reports)}, {-1, -1}, {9, 9}, {math.MinInt, math.MaxInt}, {math.MaxInt, 1}} {
			if n, e := annals.Surely(a, x[0], x[1]); n != 0 || e != api.ErrRange {
				t.Error(name, x, n, e)
			}
		}
	}
}

func TestP5_5Wrong(t *testing.T) {
	three := of(10, report(1, 100, 110), report(1, 100, 150), report(1, 140, 150))
	far := of(100000, report(1, 0, 0), report(1, 50, 60), report(1, 99999, 99999))
	for _, x := range []struct {
		name string
		a    annals.Annals
		want []int
	}{
		{"the example", with(valley(), claim(annals.Before, 3, 0)), []int{0}},
		{"the days of the first one", with(three, claim(annals.Same, 0, 1), claim(annals.Same, 1, 2)), []int{0}},
		{"the days of another slope", with(of(0, report(1, 5, 5), report(2, 0, 100000), report(2, 3, 3)), claim(annals.Same, 1, 2), claim(annals.Before, 0, 2)), []int{0}},
		{"the days of two", far, []int{0, 1}},
		{"a claim", with(of(0, report(1, 0, 9), report(2, 0, 9)), claim(annals.Same, 0, 1)), []int{2}},
		{"the first of two claims", with(three, claim(annals.Same, 0, 1), claim(annals.Other, 0, 1)), []int{3}},
		{"a claim that is against two", with(three, claim(annals.Other, 0, 1), claim(annals.Same, 1, 0), claim(annals.Before, 0, 1)), []int{4}},
		{"a claim, rather than two", with(three, claim(annals.Same, 0, 1), claim(annals.Before, 1, 0), claim(annals.Same, 1, 0)), []int{4}},
		{"two claims", with(three, claim(annals.Before, 0, 1), claim(annals.Before, 1, 0), claim(annals.Same, 1, 0)), []int{3, 4}},
		{"days, and a claim", with(three, claim(annals.Same, 0, 1), claim(annals.Other, 0, 1), claim(annals.Before, 2, 0)), []int{0, 3}},
		{"the days of the second one", with(of(5, report(1, 0, 9), report(1, 6, 6), report(2, 3, 3)), claim(annals.Before, 0, 2), claim(annals.Before, 1, 2), claim(annals.Before, 0, 2)), []int{1}},
		{"all claims", with(of(0, report(1, 0, 100000), report(2, 0, 100000)), claim(annals.Same, 0, 1), claim(annals.Same, 1, 0)), []int{2, 3}},
		{"twelve statements", with(three, slices.Repeat([]annals.Claim{claim(annals.Before, 2, 0)}, 9)...), []int{0}},
	} {
		if l, e := annals.Wrong(x.a); !slices.Equal(l, x.want) || e != api.OK {
			t.Error(x.name, l, e)
		}
	}
}

func TestP5_5WrongOfNothing(t *testing.T) {
	for name, a := range seen() {
		if l, e := annals.Wrong(a.Annals); len(l) != 0 || e != api.ErrNone {
			t.Error(name, l, e)
		}
	}
	// That nothing is wrong comes before that there are too many statements.
	many := with(valley(), slices.Repeat([]annals.Claim{claim(annals.Before, 2, 0)}, 28)...)
	if l, e := annals.Wrong(many); len(l) != 0 || e != api.ErrNone {
		t.Error(l, e)
	}
	for claims := range 31 {
		want := api.OK
		if claims > 10 {
			want = api.ErrLimit
		}
		a := with(of(0, report(1, 7, 7), report(2, 7, 7)), slices.Repeat([]annals.Claim{claim(annals.Before, 1, 0)}, claims)...)
		if _, e := annals.Wrong(a); claims > 0 && e != want {
			t.Error(claims, e)
		}
	}
	if _, e := annals.Wrong(with(others(), slices.Repeat([]annals.Claim{claim(annals.Same, 0, 1), claim(annals.Other, 1, 0)}, 3)...)); e != api.ErrLimit {
		t.Error(e)
	}
}

func equalAnnals(a, b annals.Annals) bool {
	return slices.Equal(a.Reports, b.Reports) && slices.Equal(a.Claims, b.Claims) && a.Rest == b.Rest
}

func TestP5_5Without(t *testing.T) {
	a := with(valley(), claim(annals.Same, 3, 1), claim(annals.Before, 0, 3))
	x, y, z, u := a.Claims[0], a.Claims[1], a.Claims[2], a.Claims[3]
	free := func(reports ...int) []annals.Report {
		l := slices.Clone(a.Reports)
		for _, i := range reports {
			l[i].When = to(0, 100000)
		}
		return l
	}
	for _, c := range []struct {
		statements []int
		want       annals.Annals
	}{
		{nil, a},
		{[]int{}, a},
		{[]int{0}, annals.Annals{Reports: free(0), Claims: a.Claims}},
		{[]int{3}, annals.Annals{Reports: free(3), Claims: a.Claims}},
		{[]int{4}, annals.Annals{Reports: free(), Claims: []annals.Claim{y, z, u}}},
		{[]int{5}, annals.Annals{Reports: free(), Claims: []annals.Claim{x, z, u}}},
		{[]int{7}, annals.Annals{Reports: free(), Claims: []annals.Claim{x, y, z}}},
		{[]int{1, 2, 5, 6}, annals.Annals{Reports: free(1, 2), Claims: []annals.Claim{x, u}}},
		{[]int{0, 1, 2, 3, 4, 5, 6, 7}, annals.Annals{Reports: free(0, 1, 2, 3)}},
	} {
		c.want.Rest = 30
		if b, e := annals.Without(a, c.statements); !equalAnnals(b, c.want) || e != api.OK {
			t.Error(c.statements, b, e)
		}
	}
	// Without asks neither whether the annals can be, nor for a number of statements.
	if b, e := annals.Without(never(), []int{2}); len(b.Claims) != 0 || e != api.OK {
		t.Error(b, e)
	}
	many := with(a, slices.Repeat(a.Claims, 6)...)
	if b, e := annals.Without(many, []int{31}); len(many.Claims) != 28 || !slices.Equal(b.Claims, many.Claims[:27]) || e != api.OK {
		t.Error(b, e)
	}
}

func TestP5_5WithoutWhatIsNoStatement(t *testing.T) {
	for _, l := range [][]int{{-1}, {6}, {0, 6}, {-1, 0}, {0, 0}, {5, 5}, {1, 0}, {0, 2, 1}, {0, 1, 1}, {0, 5, 6}, {math.MinInt, math.MaxInt}, {math.MaxInt}, make([]int, 100000)} {
		if b, e := annals.Without(valley(), l); len(b.Reports) != 0 || len(b.Claims) != 0 || b.Rest != 0 || e != api.ErrRange {
			t.Error(l, b, e)
		}
	}
}
