package works_test

import (
	"math"
	"math/rand"
	"reflect"
	"slices"
	"testing"

	"sackung/api"
	"sackung/works"
)

// holdsAgainst asks all that is known of a project.
func holdsAgainst(t *testing.T, p works.Project, k known) {
	t.Helper()
	plan, cost, found := best(t, p)
	if found != k.found || cost != k.cost || !slices.Equal(plan, k.plan) {
		t.Fatal("Best:", p, plan, cost, found, k)
	}
	want := api.OK
	if !k.found {
		want = api.ErrFail
	}
	if l, e := works.Needed(p); !slices.Equal(l, k.needed) || e != want {
		t.Fatal("Needed:", p, l, e, k)
	}
}

func TestP6_3And5OfSmallProjects(t *testing.T) {
	r := chance()
	found, needed := 0, 0
	for range 10000 {
		p := anyProject(r, small(r))
		k := knownOf(p)
		holdsAgainst(t, p, k)
		needed += len(k.needed)
		if k.found {
			found++
		}
	}
	if found < 3000 || found > 8000 || needed < 1000 {
		t.Error("too few, or too many:", found, needed)
	}
}

func TestP6_3And5OfLittleMoney(t *testing.T) {
	r := chance()
	dearer, none := 0, 0
	for range 3000 {
		p := thrifty(r)
		k := knownOf(p)
		holdsAgainst(t, p, k)
		p.Purses[0] = api.MaxMoney
		switch rich := knownOf(p); {
		case k.found && rich.cost < k.cost:
			dearer++
		case !k.found && rich.found:
			none++
		}
	}
	if dearer < 50 || none < 200 {
		t.Error("too few:", dearer, none)
	}
}

func TestP6_3And5OfLongProjects(t *testing.T) {
	r := chance()
	found := 0
	for range 300 {
		p := anyProject(r, size{5, 1 + r.Intn(3), 5 + r.Intn(4), 1 + r.Intn(6), 2, 60, 1 + r.Intn(10)})
		k := knownOf(p)
		holdsAgainst(t, p, k)
		if k.found {
			found++
		}
	}
	if found < 50 || found > 250 {
		t.Error("too few, or too many:", found)
	}
}

func TestP6_6CourtOfAny(t *testing.T) {
	r := chance()
	sizes := map[int]int{}
	for range 5000 {
		s := small(r)
		s.villages = 2 + r.Intn(3)
		p := anyProject(r, s)
		for i := range p.Villages {
			p.Villages[i] = r.Intn(4) == 0
		}
		p.Purses[0] += one(r, 0, 100, 1000)
		want, found := courtOf(p)
		l, e := works.Court(p)
		if !found {
			sizes[-1]++
			if len(l) != 0 || e != api.ErrNone {
				t.Fatal(p, l, e)
			}
			continue
		}
		sizes[len(want)]++
		if !slices.Equal(l, want) || e != api.OK {
			t.Fatal(p, l, e, want)
		}
	}
	if sizes[-1] < 100 || sizes[0] < 100 || sizes[1] < 100 || sizes[2] < 30 || sizes[3] < 2 {
		t.Error("too few:", sizes)
	}
}

func TestP6_1And2OfAny(t *testing.T) {
	r := chance()
	enough, allowed, all := 0, 0, 0
	for range 5000 {
		p := anyProject(r, small(r))
		plan := anyPlan(r, p)
		for slope := range p.Slopes {
			for year := range p.Years {
				want := to(addedBy(p, plan, lowest(p, slope), year), addedBy(p, plan, highest(p, slope), year))
				if x, e := works.Adds(p, plan, slope, year); x != want || e != api.OK {
					t.Fatal("Adds:", p, plan, slope, year, x, e, want)
				}
			}
		}
		want := missingOf(p, plan)
		if l, e := works.Missing(p, plan); !slices.Equal(l, want) || e != api.OK {
			t.Fatal("Missing:", p, plan, l, e, want)
		}
		if works.Suffices(p, plan) != isEnough(p, plan) {
			t.Fatal("Suffices:", p, plan)
		}
		switch {
		case isEnough(p, plan):
			all++
		case len(want) == 0:
			enough++
		case isAllowed(p, plan):
			allowed++
		}
	}
	if enough < 300 || allowed < 300 || all < 300 {
		t.Error("too few:", enough, allowed, all)
	}
}

func TestP6_4ProveBoundOfAny(t *testing.T) {
	r := chance()
	proofs, others := 0, 0
	for range 5000 {
		s := small(r)
		if r.Intn(3) == 0 {
			s = large(r)
		}
		p := anyProject(r, s)
		shares := anyShares(r, p)
		bound, proof := boundOf(p, shares), areProof(p, shares)
		if works.ProveBound(p, shares, bound) != proof {
			t.Fatal(p, shares, bound, proof)
		}
		if works.ProveBound(p, shares, bound-1) || works.ProveBound(p, shares, bound+1) {
			t.Fatal("another bound:", p, shares, bound)
		}
		if !proof {
			others++
		} else if bound > 0 {
			proofs++
		}
	}
	if proofs < 1000 || others < 500 {
		t.Error("too few:", proofs, others)
	}
}

// enoughPlan is a plan that suffices, if one is found by chance or is the best one.
func enoughPlan(r *rand.Rand, p works.Project) ([]int, bool) {
	for range 20 {
		if plan := anyPlan(r, p); works.Suffices(p, plan) {
			return plan, true
		}
	}
	plan, _, e := works.Best(p)
	return plan, e == api.OK
}

func anySize(r *rand.Rand) size {
	if r.Intn(2) == 0 {
		return large(r)
	}
	return small(r)
}

func TestP6_7EnoughInEachTruth(t *testing.T) {
	r := chance()
	tried := 0
	for range 1500 {
		p := anyProject(r, anySize(r))
		plan, found := enoughPlan(r, p)
		if !found {
			continue
		}
		tried++
		for range 5 {
			for _, n := range p.Needs {
				x, e := works.Adds(p, plan, n.Slope, n.Year)
				if got := addedBy(p, plan, anyTruth(r, p, n.Slope), n.Year); e != api.OK || got < n.Due || got < x.Lo || got > x.Hi {
					t.Fatal(p, plan, n, got, x, e)
				}
				if addedBy(p, plan, lowest(p, n.Slope), n.Year) != x.Lo || addedBy(p, plan, highest(p, n.Slope), n.Year) != x.Hi {
					t.Fatal("an end:", p, plan, n, x)
				}
			}
		}
	}
	if tried < 400 {
		t.Error("too few:", tried)
	}
}

// nearly is a plan that differs in one or two works.
func nearly(r *rand.Rand, p works.Project, plan []int) []int {
	near := slices.Clone(plan)
	for range 1 + r.Intn(2) {
		if len(near) > 0 {
			i := r.Intn(len(near))
			near[i] = anyPlan(r, p)[i]
		}
	}
	return near
}

func TestP6_8NoneIsCheaper(t *testing.T) {
	r := chance()
	others, bounds := 0, 0
	for range 600 {
		p := anyProject(r, anySize(r))
		plan, cost, found := best(t, p)
		if found && (!works.Suffices(p, plan) || !isEnough(p, plan) || costOf(p, plan) != cost) {
			t.Fatal(p, plan, cost)
		}
		for range 100 {
			other := anyPlan(r, p)
			if found && r.Intn(2) == 0 {
				other = nearly(r, p, plan)
			}
			if !isEnough(p, other) || slices.Equal(plan, other) {
				continue
			}
			others++
			if c := costOf(p, other); !found || c < cost || c == cost && slices.Compare(other, plan) < 0 {
				t.Fatal(p, plan, cost, other)
			}
		}
		shares := anyShares(r, p)
		if bound := boundOf(p, shares); works.ProveBound(p, shares, bound) && found {
			bounds++
			if bound > cost {
				t.Fatal(p, shares, bound, cost)
			}
		}
	}
	if others < 1000 || bounds < 50 {
		t.Error("too few:", others, bounds)
	}
}

// change makes a project another one, if it can.
type change func(r *rand.Rand, p *works.Project) bool

func ofWork(each func(r *rand.Rand, w *works.Work)) change {
	return func(r *rand.Rand, p *works.Project) bool {
		if len(p.Works) == 0 {
			return false
		}
		each(r, &p.Works[r.Intn(len(p.Works))])
		return true
	}
}

func ofNeed(each func(r *rand.Rand, p *works.Project, at int)) change {
	return func(r *rand.Rand, p *works.Project) bool {
		if len(p.Needs) == 0 {
			return false
		}
		each(r, p, r.Intn(len(p.Needs)))
		return true
	}
}

// easier are changes by which no best plan gets dearer.
func easier() map[string]change {
	return map[string]change{
		"more money": func(r *rand.Rand, p *works.Project) bool {
			p.Purses[r.Intn(p.Years)] += 1 + r.Intn(1000)
			return true
		},
		"a lower price": ofWork(func(r *rand.Rand, w *works.Work) { w.Price = 1 + r.Intn(w.Price) }),
		"a greater Lo": ofWork(func(r *rand.Rand, w *works.Work) {
			x := &w.Adds[r.Intn(len(w.Adds))]
			x.Lo += r.Intn(x.Hi - x.Lo + 1)
		}),
		"a lesser Due": ofNeed(func(r *rand.Rand, p *works.Project, at int) { p.Needs[at].Due = 1 + r.Intn(p.Needs[at].Due) }),
		"a need less":  ofNeed(func(r *rand.Rand, p *works.Project, at int) { p.Needs = slices.Delete(p.Needs, at, at+1) }),
		"a work more": func(r *rand.Rand, p *works.Project) bool {
			if len(p.Works) == api.MaxWorks {
				return false
			}
			w := anyWork(r, size{years: p.Years, slopes: p.Slopes, villages: len(p.Villages), add: 60, price: 10})
			p.Works = slices.Insert(p.Works, r.Intn(len(p.Works)+1), w)
			return true
		},
	}
}

func TestP6_9EasierIsNotDearer(t *testing.T) {
	for name, change := range easier() {
		r := chance()
		cheaper, now, same := 0, 0, 0
		for range 2000 {
			p := anyProject(r, anySize(r))
			if r.Intn(2) == 0 {
				p = thrifty(r)
			}
			q := with(p)
			if !change(r, &q) {
				continue
			}
			_, before, could := best(t, p)
			_, cost, can := best(t, q)
			switch {
			case could && (!can || cost > before):
				t.Fatal(name, p, q, before, cost, can)
			case could && cost < before:
				cheaper++
			case could:
				same++
			case can:
				now++
			}
		}
		if cheaper < 5 || now < 10 || same < 100 {
			t.Error(name, "too few:", cheaper, now, same)
		}
	}
}

// lessOne is a project in which a work may not be built.
func lessOne(p works.Project, work int) works.Project {
	q := with(p)
	q.Works[work].Village = len(q.Villages)
	q.Villages = append(q.Villages, false)
	return q
}

func TestP6_10Needed(t *testing.T) {
	r := chance()
	needed, others := 0, 0
	for range 700 {
		s := anySize(r)
		s.villages = min(s.villages, 5)
		p := anyProject(r, s)
		l, e := works.Needed(p)
		if e != api.OK {
			continue
		}
		if !slices.IsSorted(l) {
			t.Fatal(p, l)
		}
		for i := range p.Works {
			_, _, can := best(t, lessOne(p, i))
			if can == slices.Contains(l, i) {
				t.Fatal(p, l, i, can)
			}
			if can {
				others++
			} else {
				needed++
			}
		}
	}
	if needed < 100 || others < 300 {
		t.Error("too few:", needed, others)
	}
}

func TestP6_11Villages(t *testing.T) {
	r := chance()
	decided, cheaper := 0, 0
	for range 1000 {
		s := anySize(r)
		s.villages = max(s.villages, 2)
		p := anyProject(r, s)
		p.Purses[0] += one(r, 0, 100000)
		for i := range p.Villages {
			p.Villages[i] = r.Intn(3) == 0
		}
		_, before, could := best(t, p)
		l, e := works.Court(p)
		if (len(l) == 0 && e == api.OK) != could {
			t.Fatal(p, l, e)
		}
		for _, villages := range decisions(p) {
			_, cost, can := best(t, agreeing(p, villages))
			switch {
			case can && (e != api.OK || len(villages) < len(l) || len(villages) == len(l) && slices.Compare(villages, l) < 0):
				t.Fatal("fewer:", p, l, e, villages)
			case !can && e == api.OK && slices.Equal(villages, l):
				t.Fatal("not enough:", p, l)
			case could && cost > before:
				t.Fatal("dearer:", p, villages, before, cost)
			case could && cost < before:
				cheaper++
			}
		}
		if len(l) > 0 {
			decided++
		}
	}
	if decided < 200 || cheaper < 40 {
		t.Error("too few:", decided, cheaper)
	}
}

func TestP6_12Age(t *testing.T) {
	r := chance()
	for range 2000 {
		s := anySize(r)
		s.works, s.needs = 1, 0
		p := anyProject(r, s)
		w := p.Works[0]
		built := w.First + r.Intn(w.Last-w.First+1)
		older := with(p)
		older.Works[0].Age += r.Intn(1001 - w.Age)
		for slope, x := range w.Adds {
			for year := range p.Years {
				got, e := works.Adds(p, []int{built}, slope, year)
				less, f := works.Adds(older, []int{built}, slope, year)
				switch {
				case e != api.OK || f != api.OK || less.Lo > got.Lo || less.Hi > got.Hi || got.Lo > x.Lo || got.Hi > x.Hi:
					t.Fatal(p, built, slope, year, got, less)
				case year < built && got != to(0, 0), year == built && got != p.Works[0].Adds[slope]:
					t.Fatal(p, built, slope, year, got)
				}
				if year >= built {
					x = got
				}
			}
		}
	}
}

// lent are arguments of all calls, with memory behind their lists.
type lent struct {
	p            works.Project
	plan, shares []int
	bound        int
}

// spare is a copy with elements behind its end, which no call may change.
func spare[T any](l []T, behind ...T) []T {
	return append(slices.Clone(l), behind...)[:len(l)]
}

func anyLent(r *rand.Rand) lent {
	p := anyProject(r, small(r))
	for i, w := range p.Works {
		p.Works[i].Adds = spare(w.Adds, to(7, 8), to(9, 9))
	}
	p.Works, p.Needs = spare(p.Works, works.Work{Price: 77}), spare(p.Needs, need(7, 7, 7))
	p.Villages, p.Purses = spare(p.Villages, true, false), spare(p.Purses, 77, 78)
	shares := anyShares(r, p)
	return lent{p, spare(anyPlan(r, p), 77, 78), spare(shares, 77, 78), boundOf(p, shares)}
}

// whole is all that the arguments have, with what lies behind their lists.
func (x lent) whole() []any {
	p := x.p
	out := []any{p.Years, p.Slopes, len(p.Works), len(p.Needs), len(p.Villages), len(p.Purses), slices.Clone(p.Needs[:cap(p.Needs)]), slices.Clone(p.Villages[:cap(p.Villages)]),
		slices.Clone(p.Purses[:cap(p.Purses)]), slices.Clone(x.plan[:cap(x.plan)]), slices.Clone(x.shares[:cap(x.shares)])}
	for _, w := range p.Works[:cap(p.Works)] {
		w.Adds = slices.Clone(w.Adds[:cap(w.Adds)])
		out = append(out, w)
	}
	return out
}

func (x lent) results() []any {
	missing, e1 := works.Missing(x.p, x.plan)
	plan, cost, e2 := works.Best(x.p)
	needed, e3 := works.Needed(x.p)
	villages, e4 := works.Court(x.p)
	out := []any{works.CheckProject(x.p), missing, e1, works.Suffices(x.p, x.plan), plan, cost, e2, works.ProveBound(x.p, x.shares, x.bound), needed, e3, villages, e4}
	for year := range x.p.Years {
		added, e := works.Adds(x.p, x.plan, 0, year)
		out = append(out, added, e)
	}
	return out
}

func TestR4ArgumentsStayAndResultsAreTheSameAgain(t *testing.T) {
	r := chance()
	for range 500 {
		x := anyLent(r)
		before := x.whole()
		first := x.results()
		if !reflect.DeepEqual(before, x.whole()) {
			t.Fatal("changed:", x)
		}
		anyLent(r).results()
		if !reflect.DeepEqual(first, x.results()) {
			t.Fatal("not the same again:", x)
		}
	}
}

func TestR4ResultsShareNoMemory(t *testing.T) {
	p := ridge()
	p.Works[1].Village = 1
	q := agreeing(p, []int{1})
	q.Works[3].Village = -1
	plan, _, _ := works.Best(q)
	missing, _ := works.Missing(p, []int{-1, -1, -1, -1})
	needed, _ := works.Needed(q)
	villages, _ := works.Court(p)
	for _, l := range [][]int{plan, missing, needed, villages} {
		for i := range l {
			l[i] = 99
		}
	}
	if l, e := works.Court(p); !slices.Equal(l, []int{1}) || e != api.OK {
		t.Error(l, e)
	}
	if again, _, _ := works.Best(q); !slices.Equal(again, []int{-1, -1, -1, 0}) {
		t.Error(again)
	}
}

func TestR3NilListsAreEmptyOnes(t *testing.T) {
	for i := range 8 {
		p := works.Project{Years: 1, Slopes: 1, Purses: []int{5}}
		none := []int{}
		if i&1 > 0 {
			p.Works, none = []works.Work{}, nil
		}
		if i&2 > 0 {
			p.Needs = []works.Need{}
		}
		if i&4 > 0 {
			p.Villages = []bool{}
		}
		plan, cost, e := works.Best(p)
		if len(plan) != 0 || cost != 0 || e != api.OK || !works.Suffices(p, none) || !works.ProveBound(p, none, 0) {
			t.Error(i, plan, cost, e)
		}
		if l, e := works.Missing(p, none); len(l) != 0 || e != api.OK {
			t.Error(i, l, e)
		}
		if x, e := works.Adds(p, none, 0, 0); x != to(0, 0) || e != api.OK {
			t.Error(i, x, e)
		}
		if l, e := works.Needed(p); len(l) != 0 || e != api.OK {
			t.Error(i, l, e)
		}
		if l, e := works.Court(p); len(l) != 0 || e != api.OK {
			t.Error(i, l, e)
		}
	}
}

// tight is a project of most of all, in which the works have to be built in the right years, and only some of them.
func tight(r *rand.Rand) works.Project {
	p := works.Project{Years: 5, Slopes: 6, Villages: make([]bool, 6), Purses: slices.Repeat([]int{1500 + r.Intn(500)}, 5)}
	for i := range 8 {
		w := works.Work{Price: 1000 + r.Intn(10), Last: 4, Age: r.Intn(1001), Village: -1}
		if r.Intn(3) == 0 {
			w.Village = i % 6
		}
		for range 6 {
			low := 1000 + r.Intn(400)
			w.Adds = append(w.Adds, to(low, low+r.Intn(1000)))
		}
		p.Works = append(p.Works, w)
	}
	for i := range 20 {
		p.Needs = append(p.Needs, need(r.Intn(6), i%5, 2000+r.Intn(500)))
	}
	return p
}

func TestP1LimitsAtOnce(t *testing.T) {
	r := chance()
	for range 30 {
		p := tight(r)
		l, e := works.Court(p)
		if e != api.OK && e != api.ErrNone {
			t.Fatal(p, e)
		}
		p = agreeing(p, l)
		if _, _, found := best(t, p); found != (e == api.OK) {
			t.Fatal(p, l, e)
		}
		if l, f := works.Needed(p); (f == api.OK) != (e == api.OK) {
			t.Fatal(p, l, f)
		}
	}
}

func TestP1AnyArguments(t *testing.T) {
	r := chance()
	numbers := []int{math.MinInt, math.MinInt + 1, -1000001, -2, -1, 0, 1, 2, 3, 5, 6, 8, 999, 1000, 1001, 10000, 10001, 1000000, 1000001, math.MaxInt - 1, math.MaxInt}
	any := func() int { return one(r, numbers...) }
	list := func() []int {
		l := make([]int, r.Intn(5))
		for i := range l {
			l[i] = any()
		}
		return l
	}
	for range 30000 {
		p := works.Project{Years: any(), Slopes: any(), Villages: make([]bool, r.Intn(3)), Purses: list()}
		if r.Intn(3) > 0 {
			p = anyProject(r, small(r))
		}
		for range r.Intn(2) {
			w := works.Work{Price: any(), First: any(), Last: any(), Age: any(), Village: any()}
			for range r.Intn(3) {
				w.Adds = append(w.Adds, to(any(), any()))
			}
			p.Works = append(p.Works, w)
		}
		for range r.Intn(2) {
			p.Needs = append(p.Needs, need(any(), any(), any()))
		}
		works.CheckProject(p)
		works.Adds(p, list(), any(), any())
		works.Missing(p, list())
		works.Suffices(p, list())
		works.Best(p)
		works.ProveBound(p, list(), any())
		works.Needed(p)
		works.Court(p)
	}
}
