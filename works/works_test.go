package works_test

import (
	"math"
	"slices"
	"testing"

	"sackung/api"
	"sackung/works"
)

func TestP6_1ValidProjects(t *testing.T) {
	for name, change := range map[string]func(p *works.Project){
		"the ridge":     func(p *works.Project) {},
		"the least":     func(p *works.Project) { *p = works.Project{Years: 1, Slopes: 1, Purses: []int{0}} },
		"no works":      func(p *works.Project) { p.Works = nil },
		"most works":    func(p *works.Project) { p.Works = slices.Repeat(p.Works, 2) },
		"no needs":      func(p *works.Project) { p.Needs = []works.Need{} },
		"most needs":    func(p *works.Project) { p.Needs = slices.Repeat(p.Needs, 10) },
		"most villages": func(p *works.Project) { p.Villages, p.Works[3].Village = make([]bool, 6), 5 },
		"no villages":   func(p *works.Project) { p.Villages, p.Works = nil, p.Works[:1] },
		"most years":    func(p *works.Project) { p.Years, p.Purses, p.Works[0].Last = 5, make([]int, 5), 4 },
		"most slopes": func(p *works.Project) {
			p.Slopes, p.Works = 6, p.Works[:1]
			p.Works[0].Adds = make([]works.Range, 6)
			p.Needs[0].Slope = 5
		},
		"the least price":   func(p *works.Project) { p.Works[0].Price = 1 },
		"the highest price": func(p *works.Project) { p.Works[0].Price = 1000000 },
		"no money":          func(p *works.Project) { p.Purses = make([]int, 3) },
		"most money":        func(p *works.Project) { p.Purses = []int{1000000, 1000000, 1000000} },
		"one year":          func(p *works.Project) { p.Works[0].First, p.Works[0].Last = 2, 2 },
		"the greatest age":  func(p *works.Project) { p.Works[0].Age = 1000 },
		"most is added":     func(p *works.Project) { p.Works[0].Adds[1] = to(10000, 10000) },
		"all may be added":  func(p *works.Project) { p.Works[0].Adds[1] = to(0, 10000) },
		"the least due":     func(p *works.Project) { p.Needs[0].Due = 1 },
		"most due":          func(p *works.Project) { p.Needs[0].Due = 10000 },
		"a need twice":      func(p *works.Project) { p.Needs[1] = p.Needs[0] },
		"the last year":     func(p *works.Project) { p.Needs[0].Year = 2 },
	} {
		p := ridge()
		change(&p)
		if e := works.CheckProject(p); e != api.OK {
			t.Error(name, e)
		}
	}
}

func invalidProjects() map[string]func(p *works.Project) {
	return map[string]func(p *works.Project){
		"nothing":              func(p *works.Project) { *p = works.Project{} },
		"no years":             func(p *works.Project) { p.Years, p.Purses, p.Works, p.Needs = 0, nil, nil, nil },
		"years below":          func(p *works.Project) { p.Years = math.MinInt },
		"years above":          func(p *works.Project) { p.Years, p.Purses = 6, make([]int, 6) },
		"wild years":           func(p *works.Project) { p.Years = math.MaxInt },
		"no slopes":            func(p *works.Project) { p.Slopes, p.Works, p.Needs = 0, nil, nil },
		"slopes below":         func(p *works.Project) { p.Slopes = -1 },
		"slopes above":         func(p *works.Project) { p.Slopes, p.Works = 7, nil },
		"wild slopes":          func(p *works.Project) { p.Slopes = math.MaxInt },
		"a purse less":         func(p *works.Project) { p.Purses = p.Purses[:2] },
		"a purse more":         func(p *works.Project) { p.Purses = append(p.Purses, 0) },
		"no purses":            func(p *works.Project) { p.Purses = nil },
		"a purse below":        func(p *works.Project) { p.Purses[1] = -1 },
		"a purse above":        func(p *works.Project) { p.Purses[2] = 1000001 },
		"no price":             func(p *works.Project) { p.Works[3].Price = 0 },
		"a price below":        func(p *works.Project) { p.Works[0].Price = -5 },
		"a price above":        func(p *works.Project) { p.Works[0].Price = 1000001 },
		"a first year below":   func(p *works.Project) { p.Works[0].First = -1 },
		"years turned round":   func(p *works.Project) { p.Works[0].First, p.Works[0].Last = 2, 1 },
		"a last year above":    func(p *works.Project) { p.Works[0].Last = 3 },
		"a last year below":    func(p *works.Project) { p.Works[0].First, p.Works[0].Last = 0, -1 },
		"wild years of a work": func(p *works.Project) { p.Works[0].First, p.Works[0].Last = math.MinInt, math.MaxInt },
		"wild years turned":    func(p *works.Project) { p.Works[0].First, p.Works[0].Last = math.MaxInt, math.MinInt },
		"an age below":         func(p *works.Project) { p.Works[1].Age = -1 },
		"an age above":         func(p *works.Project) { p.Works[1].Age = 1001 },
		"a village below":      func(p *works.Project) { p.Works[1].Village = -2 },
		"a village above":      func(p *works.Project) { p.Works[1].Village = 2 },
		"no such village":      func(p *works.Project) { p.Villages = nil },
		"a slope less":         func(p *works.Project) { p.Works[2].Adds = p.Works[2].Adds[:1] },
		"a slope more":         func(p *works.Project) { p.Works[2].Adds = append(p.Works[2].Adds, to(0, 0)) },
		"nothing of slopes":    func(p *works.Project) { p.Works[2].Adds = nil },
		"a range below":        func(p *works.Project) { p.Works[2].Adds[0] = to(-1, 5) },
		"a range above":        func(p *works.Project) { p.Works[2].Adds[1] = to(5, 10001) },
		"a range turned round": func(p *works.Project) { p.Works[3].Adds[1] = to(6, 5) },
		"a wild range":         func(p *works.Project) { p.Works[3].Adds[1] = to(math.MaxInt, math.MinInt) },
		"a slope below":        func(p *works.Project) { p.Needs[0].Slope = -1 },
		"a slope above":        func(p *works.Project) { p.Needs[1].Slope = 2 },
		"a year below":         func(p *works.Project) { p.Needs[0].Year = -1 },
		"a year above":         func(p *works.Project) { p.Needs[1].Year = 3 },
		"nothing due":          func(p *works.Project) { p.Needs[1].Due = 0 },
		"due below":            func(p *works.Project) { p.Needs[1].Due = math.MinInt },
		"due above":            func(p *works.Project) { p.Needs[1].Due = 10001 },
	}
}

// refused asks all calls for an error; those with more arguments, also for what is an error of theirs, as the one of the project comes before it.
func refused(t *testing.T, name string, p works.Project, want api.Errno) {
	t.Helper()
	if e := works.CheckProject(p); e != want {
		t.Error("CheckProject:", name, e)
	}
	none := slices.Repeat([]int{-1}, len(p.Works))
	for _, plan := range [][]int{none, nil, {7}, append(none, -1)} {
		if x, e := works.Adds(p, plan, 0, 0); x != to(0, 0) || e != want {
			t.Error("Adds:", name, x, e)
		}
		if x, e := works.Adds(p, plan, -1, 99); x != to(0, 0) || e != want {
			t.Error("Adds:", name, x, e)
		}
		if l, e := works.Missing(p, plan); len(l) != 0 || e != want {
			t.Error("Missing:", name, l, e)
		}
		if works.Suffices(p, plan) {
			t.Error("Suffices:", name)
		}
	}
	if plan, cost, e := works.Best(p); len(plan) != 0 || cost != 0 || e != want {
		t.Error("Best:", name, plan, cost, e)
	}
	if works.ProveBound(p, make([]int, len(p.Needs)), 0) {
		t.Error("ProveBound:", name)
	}
	if l, e := works.Needed(p); len(l) != 0 || e != want {
		t.Error("Needed:", name, l, e)
	}
	if l, e := works.Court(p); len(l) != 0 || e != want {
		t.Error("Court:", name, l, e)
	}
}

func TestP6_1InvalidProjects(t *testing.T) {
	for name, change := range invalidProjects() {
		p := ridge()
		change(&p)
		refused(t, name, p, api.ErrArg)
	}
}

func TestP6_1TooMuch(t *testing.T) {
	for name, change := range map[string]func(p *works.Project){
		"too many works":           func(p *works.Project) { p.Works = append(slices.Repeat(p.Works, 2), p.Works[0]) },
		"many works":               func(p *works.Project) { p.Works = make([]works.Work, 100000) },
		"too many needs":           func(p *works.Project) { p.Needs = slices.Repeat(p.Needs[:1], 21) },
		"many needs":               func(p *works.Project) { p.Needs = make([]works.Need, 100000) },
		"too many villages":        func(p *works.Project) { p.Villages = slices.Repeat([]bool{true}, 7) },
		"many villages":            func(p *works.Project) { p.Villages = make([]bool, 100000) },
		"villages of nothing":      func(p *works.Project) { *p = works.Project{Villages: make([]bool, 7)} },
		"needs, and years below":   func(p *works.Project) { p.Needs, p.Years = slices.Repeat(p.Needs, 11), -1 },
		"works, and nothing in it": func(p *works.Project) { p.Works, p.Purses = make([]works.Work, 9), nil },
	} {
		p := ridge()
		change(&p)
		refused(t, name, p, api.ErrLimit)
	}
}

func TestP6_1Adds(t *testing.T) {
	for _, x := range []struct {
		plan        []int
		slope, year int
		want        works.Range
	}{
		{[]int{0, 1, 1, -1}, 0, 1, to(95, 124)},
		{[]int{0, 1, 1, -1}, 1, 2, to(45, 55)},
		{[]int{-1, -1, -1, -1}, 0, 2, to(0, 0)},
		{[]int{0, -1, -1, -1}, 0, 0, to(50, 60)},
		{[]int{0, -1, -1, -1}, 0, 1, to(45, 54)},
		{[]int{0, -1, -1, -1}, 0, 2, to(40, 48)},
		{[]int{0, -1, -1, -1}, 1, 2, to(0, 0)},
		{[]int{1, -1, -1, -1}, 0, 0, to(0, 0)},
		{[]int{1, -1, -1, -1}, 0, 1, to(50, 60)},
		{[]int{1, -1, -1, -1}, 0, 2, to(45, 54)},
		{[]int{-1, 0, -1, -1}, 1, 2, to(40, 50)},
		{[]int{-1, -1, 0, -1}, 0, 1, to(15, 20)},
		{[]int{-1, -1, 0, -1}, 0, 2, to(0, 0)},
		{[]int{-1, -1, 2, -1}, 0, 2, to(30, 40)},
		// Neither agreement nor money counts.
		{[]int{-1, -1, -1, 1}, 0, 1, to(60, 60)},
		{[]int{0, 0, 0, 0}, 0, 0, to(160, 190)},
	} {
		if r, e := works.Adds(ridge(), x.plan, x.slope, x.year); r != x.want || e != api.OK {
			t.Error(x, r, e)
		}
	}
}

// What each work adds is rounded down, not what they add together; and what it loses is of the number that is true.
func TestP6_1AddsOfAgeing(t *testing.T) {
	for _, x := range []struct {
		age, low, high, year int
		want                 works.Range
	}{
		{100, 50, 50, 1, to(45, 45)}, {333, 10, 19, 0, to(10, 19)}, {333, 10, 19, 1, to(6, 12)}, {333, 10, 19, 2, to(3, 6)},
		{333, 1000, 1001, 3, to(1, 1)}, {333, 999, 999, 3, to(0, 0)}, {333, 10000, 10000, 4, to(0, 0)}, {334, 10000, 10000, 3, to(0, 0)},
		{250, 10000, 10000, 3, to(2500, 2500)}, {250, 10000, 10000, 4, to(0, 0)}, {1000, 10000, 10000, 1, to(0, 0)}, {1000, 10000, 10000, 0, to(10000, 10000)},
		{1, 1, 1, 1, to(0, 0)}, {1, 1, 1001, 1, to(0, 999)}, {0, 7, 8, 4, to(7, 8)},
	} {
		p := hill(5, 1, drain(1, 0, 4, x.age, to(x.low, x.high)))
		if r, e := works.Adds(p, []int{0}, 0, x.year); r != x.want || e != api.OK {
			t.Error(x, r, e)
		}
		p.Works = append(p.Works, p.Works[0])
		if r, e := works.Adds(p, []int{0, 0}, 0, x.year); r != to(2*x.want.Lo, 2*x.want.Hi) || e != api.OK {
			t.Error("two of them:", x, r, e)
		}
	}
}

func noPlans() map[string][]int {
	return map[string][]int{
		"none": nil, "a work less": {-1, -1, -1}, "a work more": {-1, -1, -1, -1, -1}, "a year below": {-2, -1, -1, -1}, "a year above": {-1, -1, -1, 3},
		"before the first": {-1, 0, -1, -1}, "behind the last": {2, -1, -1, -1}, "a wild year": {-1, -1, math.MinInt, -1}, "another wild year": {-1, -1, -1, math.MaxInt},
	}
}

func TestP6_1And2NoPlan(t *testing.T) {
	p := ridge()
	p.Works[1].First = 1
	for name, plan := range noPlans() {
		for _, at := range [][2]int{{0, 0}, {1, 2}, {2, 0}, {-1, -1}} {
			if r, e := works.Adds(p, plan, at[0], at[1]); r != to(0, 0) || e != api.ErrRange {
				t.Error("Adds:", name, r, e)
			}
		}
		if l, e := works.Missing(p, plan); len(l) != 0 || e != api.ErrRange {
			t.Error("Missing:", name, l, e)
		}
		p.Needs = nil
		if works.Suffices(p, plan) {
			t.Error("Suffices:", name)
		}
		p.Needs = ridge().Needs
	}
	for _, plan := range [][]int{{-1, 1, -1, -1}, {1, 2, 2, 2}, {0, -1, 0, 0}} {
		if _, e := works.Missing(p, plan); e != api.OK {
			t.Error(plan, e)
		}
	}
}

func TestP6_1AddsOfNoSlopeOrYear(t *testing.T) {
	for _, at := range [][2]int{{-1, 0}, {2, 0}, {0, -1}, {0, 3}, {math.MinInt, 0}, {0, math.MaxInt}, {5, 5}} {
		if r, e := works.Adds(ridge(), []int{0, 0, 0, 0}, at[0], at[1]); r != to(0, 0) || e != api.ErrRange {
			t.Error(at, r, e)
		}
	}
}

func TestP6_2MissingAndSuffices(t *testing.T) {
	for _, x := range []struct {
		plan     []int
		missing  []int
		suffices bool
	}{
		{[]int{-1, 2, 1, -1}, []int{0}, false},
		{[]int{-1, 0, 1, -1}, nil, true},
		{[]int{-1, 1, 1, -1}, nil, true},
		{[]int{0, 1, -1, -1}, nil, true},
		{[]int{-1, -1, -1, -1}, []int{0, 1}, false},
		{[]int{0, -1, -1, -1}, []int{1}, false},
		{[]int{-1, 0, 0, -1}, []int{0}, false},
		// Enough, but there is no money for it in time, or at all.
		{[]int{0, 0, -1, -1}, nil, false},
		{[]int{0, 2, -1, -1}, nil, true},
		{[]int{0, 2, 0, -1}, nil, false},
		{[]int{0, 2, 2, -1}, nil, true},
		// Enough, but the village does not agree.
		{[]int{-1, -1, -1, 0}, nil, false},
		{[]int{-1, 0, 1, 2}, nil, false},
	} {
		if l, e := works.Missing(ridge(), x.plan); !slices.Equal(l, x.missing) || e != api.OK {
			t.Error("Missing:", x, l, e)
		}
		if works.Suffices(ridge(), x.plan) != x.suffices {
			t.Error("Suffices:", x)
		}
	}
}

func TestP6_2JustEnough(t *testing.T) {
	for _, x := range []struct {
		due, price int
		purses     []int
		year       int
		missing    []int
		suffices   bool
	}{
		{90, 30, []int{30, 0}, 0, nil, true},
		{91, 30, []int{30, 0}, 0, []int{0}, false},
		{100, 30, []int{30, 0}, 1, nil, true},
		{101, 30, []int{30, 0}, 1, []int{0}, false},
		{90, 30, []int{29, 100}, 0, nil, false},
		{90, 30, []int{29, 1}, 1, nil, true},
		{90, 30, []int{29, 0}, 1, nil, false},
	} {
		p := hill(2, x.due, drain(x.price, 0, 1, 100, to(100, 200)))
		p.Purses = x.purses
		if l, e := works.Missing(p, []int{x.year}); !slices.Equal(l, x.missing) || e != api.OK || works.Suffices(p, []int{x.year}) != x.suffices {
			t.Error(x, l, e)
		}
	}
}

// What is left in a purse may be spent later, and what will come may not be spent before: it counts up to each year, also to those behind the last work.
func TestP6_2MoneyOfAllYears(t *testing.T) {
	p := hill(3, 1, drain(10, 0, 2, 0, to(1, 1)), drain(10, 0, 2, 0, to(1, 1)), drain(10, 0, 2, 0, to(1, 1)))
	for _, x := range []struct {
		purses, plan []int
		want         bool
	}{
		{[]int{30, 0, 0}, []int{2, 2, 2}, true}, {[]int{0, 0, 30}, []int{2, 2, 2}, true}, {[]int{0, 0, 30}, []int{2, 1, 2}, false}, {[]int{10, 10, 10}, []int{0, 1, 2}, true},
		{[]int{10, 10, 10}, []int{0, 0, 2}, false}, {[]int{10, 9, 11}, []int{0, 1, 2}, false}, {[]int{10, 10, 9}, []int{0, 1, 2}, false}, {[]int{10, 10, 9}, []int{0, 1, -1}, true},
		{[]int{20, 0, 10}, []int{1, 0, 2}, true}, {[]int{20, 0, 10}, []int{1, 1, 1}, false},
	} {
		p.Purses = x.purses
		if works.Suffices(p, x.plan) != x.want {
			t.Error(x)
		}
	}
}

// outcome is what is known of a project; for a court, also what it decides.
type outcome struct {
	works.Project
	known
	court []int
}

func sure(plan []int, cost int, needed ...int) known {
	return known{found: true, plan: plan, cost: cost, needed: needed}
}

func changed(change func(p *works.Project)) works.Project {
	p := ridge()
	change(&p)
	return p
}

func possible() map[string]outcome {
	a := drain(10, 0, 2, 0, to(50, 60))
	b := drain(10, 0, 2, 500, to(50, 60))
	later := drain(10, 1, 2, 0, to(50, 60))
	return map[string]outcome{
		"the ridge":          {Project: ridge(), known: sure([]int{-1, 0, 1, -1}, 50, 1)},
		"all agree":          {Project: changed(func(p *works.Project) { p.Villages[1] = true }), known: sure([]int{-1, -1, -1, 0}, 10)},
		"little money":       {Project: changed(func(p *works.Project) { p.Purses = []int{20, 30, 0} }), known: sure([]int{-1, 1, 1, -1}, 50, 1, 2)},
		"no needs":           {Project: changed(func(p *works.Project) { p.Needs = nil }), known: sure([]int{-1, -1, -1, -1}, 0)},
		"no works, no needs": {Project: changed(func(p *works.Project) { p.Needs, p.Works = nil, nil }), known: sure(nil, 0)},
		"no money, no needs": {Project: changed(func(p *works.Project) { p.Needs, p.Purses = nil, make([]int, 3) }), known: sure([]int{-1, -1, -1, -1}, 0)},
		"one need":           {Project: changed(func(p *works.Project) { p.Needs = p.Needs[:1] }), known: sure([]int{0, -1, -1, -1}, 40)},
		"the cheaper one":    {Project: hill(3, 50, drain(11, 0, 2, 0, to(90, 90)), a), known: sure([]int{-1, 0}, 10)},
		"the last one":       {Project: hill(3, 50, a, a), known: sure([]int{-1, 0}, 10)},
		"the first year":     {Project: hill(3, 50, a), known: sure([]int{0}, 10, 0)},
		"not the first year": {Project: hill(3, 50, later), known: sure([]int{1}, 10, 0)},
		"the year itself":    {Project: hill(3, 50, b), known: sure([]int{2}, 10, 0)},
		"a year before":      {Project: hill(3, 25, b), known: sure([]int{1}, 10, 0)},
		"one that is old":    {Project: hill(3, 75, b, b), known: sure([]int{1, 2}, 20, 0, 1)},
		"both of them":       {Project: hill(3, 100, a, a), known: sure([]int{0, 0}, 20, 0, 1)},
		"two of three":       {Project: hill(3, 100, a, a, a), known: sure([]int{-1, 0, 0}, 20)},
		"one of each truth":  {Project: hill(3, 100, a, drain(1, 0, 2, 0, to(49, 10000)), a), known: sure([]int{0, -1, 0}, 20, 0, 2)},
		"money of the last year": {
			Project: changed(func(p *works.Project) { *p = hill(3, 50, a); p.Purses = []int{9, 0, 1} }), known: sure([]int{2}, 10, 0)},
		"cheap, but too late": {
			Project: changed(func(p *works.Project) { *p = hill(3, 50, drain(1, 2, 2, 0, to(50, 50)), a); p.Needs[0].Year = 1 }), known: sure([]int{-1, 0}, 10, 1)},
		"of one cost, with more works": {
			Project: hill(3, 90, drain(20, 0, 0, 0, to(90, 90)), a, a), known: sure([]int{-1, 0, 0}, 20)},
		"of one cost, the least list": {
			Project: hill(3, 90, a, a, drain(20, 2, 2, 0, to(90, 90))), known: sure([]int{-1, -1, 2}, 20)},
		"prices that are not even": {
			Project: hill(1, 90, drain(5, 0, 0, 0, to(30, 30)), drain(6, 0, 0, 0, to(60, 60)), drain(7, 0, 0, 0, to(60, 60))), known: sure([]int{0, 0, -1}, 11)},
		"the dearest": {
			Project: hill(1, 10000, drain(1000000, 0, 0, 1000, to(10000, 10000))), known: sure([]int{0}, 1000000, 0)},
		"one village": {Project: changed(func(p *works.Project) { p.Works[1].Village = 1 }), court: []int{1}},
		"three villages, one with two works": {
			Project: changed(func(p *works.Project) {
				p.Villages = []bool{false, false, false}
				p.Works[0].Village, p.Works[1].Village, p.Works[2].Village, p.Works[3].Village = 0, 1, 2, 0
			}), court: []int{0}},
		"the least two": {
			Project: changed(func(p *works.Project) {
				p.Villages, p.Works = []bool{false, false, false}, p.Works[:3]
				p.Works[0].Village, p.Works[1].Village, p.Works[2].Village = 0, 1, 2
			}), court: []int{0, 1}},
		"the last two": {
			Project: changed(func(p *works.Project) {
				p.Villages, p.Works = []bool{false, true, false, false}, p.Works[1:3]
				p.Works[0].Village, p.Works[1].Village = 3, 2
			}), court: []int{2, 3}},
	}
}

func impossible() map[string]works.Project {
	a := drain(10, 0, 2, 0, to(50, 60))
	return map[string]works.Project{
		"no works":          changed(func(p *works.Project) { p.Works = nil }),
		"no money":          changed(func(p *works.Project) { p.Purses = make([]int, 3) }),
		"not enough money":  changed(func(p *works.Project) { p.Purses, p.Works = []int{20, 20, 10}, p.Works[:3] }),
		"money too late":    changed(func(p *works.Project) { p.Purses, p.Works = []int{19, 0, 1000000}, p.Works[:3] }),
		"more is due":       changed(func(p *works.Project) { p.Needs[1].Due = 111 }),
		"no work in time":   changed(func(p *works.Project) { *p = hill(3, 50, drain(1, 2, 2, 0, to(50, 50))); p.Needs[0].Year = 1 }),
		"not in each truth": hill(3, 51, a),
		"old works":         hill(5, 50, drain(10, 0, 0, 250, to(10000, 10000))),
		"one year too early": changed(func(p *works.Project) {
			*p = hill(2, 50, drain(1, 0, 1, 1000, to(50, 50)))
			p.Needs = append(p.Needs, need(0, 0, 1))
		}),
	}
}

func TestP6_3Best(t *testing.T) {
	for name, x := range possible() {
		if !x.found {
			continue
		}
		if plan, cost, e := works.Best(x.Project); !slices.Equal(plan, x.plan) || cost != x.cost || e != api.OK {
			t.Error(name, plan, cost, e)
		}
	}
}

func TestP6_3And5NoPlanSuffices(t *testing.T) {
	fails := func(name string, p works.Project) {
		if plan, cost, e := works.Best(p); len(plan) != 0 || cost != 0 || e != api.ErrFail {
			t.Error("Best:", name, plan, cost, e)
		}
		if l, e := works.Needed(p); len(l) != 0 || e != api.ErrFail {
			t.Error("Needed:", name, l, e)
		}
	}
	for name, p := range impossible() {
		fails(name, p)
	}
	for name, x := range possible() {
		if !x.found {
			fails(name, x.Project)
		}
	}
}

func TestP6_4ProveBound(t *testing.T) {
	for _, x := range []struct {
		shares []int
		bound  int
		want   bool
	}{
		{[]int{0, 750}, 30, true},
		{[]int{0, 750}, 29, false},
		{[]int{0, 750}, 31, false},
		{[]int{0, 751}, 31, false},
		{[]int{0, 0}, 0, true},
		{[]int{0, 0}, 1, false},
		{[]int{0, 0}, -1, false},
		{[]int{0, 1}, 1, true},
		{[]int{0, 1}, 0, false},
		{[]int{0, 25}, 1, true},
		{[]int{0, 25}, 2, false},
		{[]int{666, 0}, 30, true},
		{[]int{667, 0}, 31, false},
		{[]int{500, 500}, 43, true},
		{[]int{500, 501}, 43, false},
		{[]int{666, 4}, 31, true},
		{[]int{-1, 0}, 0, false},
		{[]int{0, -25}, -1, false},
		{[]int{0}, 0, false},
		{[]int{0, 0, 0}, 0, false},
		{nil, 0, false},
		{[]int{0, 1000000001}, 40000001, false},
		{[]int{math.MaxInt, math.MaxInt}, 0, false},
		{[]int{math.MinInt, math.MinInt}, 0, false},
		{[]int{0, 750}, math.MinInt, false},
	} {
		if works.ProveBound(ridge(), x.shares, x.bound) != x.want {
			t.Error(x)
		}
	}
}

// What a work adds at most does not count, nor more than is due, nor what it adds in a year in which it cannot be built; a work that may not be built has no worth.
func TestP6_4Worth(t *testing.T) {
	for name, x := range map[string]struct {
		works.Project
		shares []int
		bound  int
		want   bool
	}{
		"just the price":           {hill(3, 100, drain(3, 0, 2, 100, to(60, 90))), []int{50}, 5, true},
		"more than the price":      {hill(3, 100, drain(3, 0, 2, 100, to(60, 90))), []int{51}, 6, false},
		"no more than is due":      {hill(3, 30, drain(3, 0, 2, 100, to(60, 90))), []int{100}, 3, true},
		"more, of no more":         {hill(3, 30, drain(3, 0, 2, 100, to(60, 90))), []int{101}, 4, false},
		"an old work":              {hill(3, 100, drain(3, 0, 1, 100, to(60, 90))), []int{55}, 6, true},
		"more of an old one":       {hill(3, 100, drain(3, 0, 1, 100, to(60, 90))), []int{56}, 6, false},
		"an older one":             {hill(3, 100, drain(3, 0, 0, 100, to(60, 90))), []int{62}, 7, true},
		"more of an older one":     {hill(3, 100, drain(3, 0, 0, 100, to(60, 90))), []int{63}, 7, false},
		"one that adds nothing":    {hill(3, 100, drain(1, 0, 0, 500, to(60, 90))), []int{1000000000}, 100000000, true},
		"one that may not be":      {changed(func(p *works.Project) { p.Works = p.Works[3:] }), []int{1000000000, 1000000000}, 85000000, true},
		"one that has to agree":    {changed(func(p *works.Project) { p.Works, p.Villages[1] = p.Works[3:], true }), []int{1000000000, 1000000000}, 85000000, false},
		"no works":                 {hill(1, 10000), []int{1000000000}, 10000000000, true},
		"no works, and a coin off": {hill(1, 10000), []int{1000000000}, 9999999999, false},
		"no needs":                 {changed(func(p *works.Project) { p.Needs = nil }), nil, 0, true},
		"no needs, a share":        {changed(func(p *works.Project) { p.Needs = nil }), []int{0}, 0, false},
		"no needs, a bound":        {changed(func(p *works.Project) { p.Needs = nil }), nil, 1, false},
		"no money":                 {changed(func(p *works.Project) { p.Purses = make([]int, 3) }), []int{0, 750}, 30, true},
		"no money, but a price":    {changed(func(p *works.Project) { p.Purses = make([]int, 3) }), []int{0, 751}, 31, false},
		"the second work":          {hill(1, 50, drain(10, 0, 0, 0, to(10, 10)), drain(1, 0, 0, 0, to(11, 11))), []int{100}, 5, false},
		"the first work":           {hill(1, 50, drain(1, 0, 0, 0, to(11, 11)), drain(10, 0, 0, 0, to(10, 10))), []int{100}, 5, false},
		"neither":                  {hill(1, 50, drain(1, 0, 0, 0, to(10, 11)), drain(10, 0, 0, 0, to(10, 10))), []int{100}, 5, true},
	} {
		if works.ProveBound(x.Project, x.shares, x.bound) != x.want {
			t.Error(name)
		}
	}
}

func TestP6_5Needed(t *testing.T) {
	for name, x := range possible() {
		if !x.found {
			continue
		}
		if l, e := works.Needed(x.Project); !slices.Equal(l, x.needed) || e != api.OK {
			t.Error(name, l, e)
		}
	}
}

func TestP6_6Court(t *testing.T) {
	for name, x := range possible() {
		if l, e := works.Court(x.Project); !slices.Equal(l, x.court) || e != api.OK {
			t.Error(name, l, e)
		}
	}
	for name, p := range impossible() {
		if name == "no money" || name == "more is due" {
			p.Villages = []bool{false, false}
		}
		if l, e := works.Court(p); len(l) != 0 || e != api.ErrNone {
			t.Error(name, l, e)
		}
	}
}

// With two villages a plan suffices as with one of the others: the one it is, though the two come before it.
func TestP6_6FewestBeforeLeast(t *testing.T) {
	half, whole := drain(1, 0, 0, 0, to(50, 50)), drain(100, 0, 0, 0, to(100, 100))
	p := hill(1, 100, half, half, whole, whole)
	p.Villages = []bool{false, false, true, false, false, false}
	p.Works[0].Village, p.Works[1].Village, p.Works[2].Village, p.Works[3].Village = 0, 1, 5, 4
	for _, want := range [][]int{{4}, {5}, {0, 1}} {
		if l, e := works.Court(p); !slices.Equal(l, want) || e != api.OK {
			t.Error(l, want, e)
		}
		p.Works = slices.Delete(p.Works, len(p.Works)-1, len(p.Works))
	}
	if l, e := works.Court(p); len(l) != 0 || e != api.ErrNone {
		t.Error(l, e)
	}
}
