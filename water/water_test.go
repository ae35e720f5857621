package water_test

import (
	"math"
	"slices"
	"testing"

	"sackung/api"
	"sackung/water"
)

func TestP2_1ValidGrounds(t *testing.T) {
	for name, change := range map[string]func(g *water.Ground){
		"the bank":         func(g *water.Ground) {},
		"one cell":         func(g *water.Ground) { *g = pools(1) },
		"most cells":       func(g *water.Ground) { *g = pools(8) },
		"most snow":        func(g *water.Ground) { g.Snow = to(0, 100000) },
		"all soaks":        func(g *water.Ground) { g.Soak = to(0, 1000) },
		"all soak in":      func(g *water.Ground) { g.Soak = just(1000) },
		"no melt":          func(g *water.Ground) { g.Melt = 0 },
		"most melt":        func(g *water.Ground) { g.Melt = 50 },
		"full":             func(g *water.Ground) { g.Cells[0].Level = to(0, 400) },
		"least cap":        func(g *water.Ground) { g.Cells[0] = water.Cell{Level: to(0, 1), Cap: 1, Keep: 1, To: 1} },
		"greatest cap":     func(g *water.Ground) { g.Cells[0].Cap = 100000 },
		"keep up to cap":   func(g *water.Ground) { g.Cells[0].Keep = 400 },
		"passes on all":    func(g *water.Ground) { g.Cells[0].Pass = 1000 },
		"passes on none":   func(g *water.Ground) { g.Cells[0].Pass = 0 },
		"two of a ring":    func(g *water.Ground) { g.Cells[1].To = 0 },
		"both to a river":  func(g *water.Ground) { g.Cells[0].To = -1 },
		"greatest pump":    func(g *water.Ground) { g.Cells[0].Pump = 100000 },
		"pump above a cap": func(g *water.Ground) { g.Cells[1].Pump = 151 },
	} {
		g := bank()
		change(&g)
		if e := water.CheckGround(g); e != api.OK {
			t.Error(name, e)
		}
	}
}

func invalidGrounds() map[string]func(g *water.Ground) {
	return map[string]func(g *water.Ground){
		"no ground":          func(g *water.Ground) { *g = water.Ground{} },
		"nil cells":          func(g *water.Ground) { g.Cells = nil },
		"no cells":           func(g *water.Ground) { g.Cells = []water.Cell{} },
		"9 cells":            func(g *water.Ground) { g.Cells = pools(9).Cells },
		"snow below":         func(g *water.Ground) { g.Snow = to(-1, 5) },
		"snow above":         func(g *water.Ground) { g.Snow = to(5, 100001) },
		"snow turned":        func(g *water.Ground) { g.Snow = to(6, 5) },
		"soak below":         func(g *water.Ground) { g.Soak = to(-1, 5) },
		"soak above":         func(g *water.Ground) { g.Soak = to(5, 1001) },
		"soak turned":        func(g *water.Ground) { g.Soak = to(6, 5) },
		"soak wild":          func(g *water.Ground) { g.Soak = to(math.MinInt, math.MaxInt) },
		"melt below":         func(g *water.Ground) { g.Melt = -1 },
		"melt above":         func(g *water.Ground) { g.Melt = 51 },
		"melt wild":          func(g *water.Ground) { g.Melt = math.MinInt },
		"level below":        func(g *water.Ground) { g.Cells[1].Level = to(-1, 60) },
		"level above":        func(g *water.Ground) { g.Cells[1].Level = to(60, 151) },
		"level turned":       func(g *water.Ground) { g.Cells[1].Level = to(61, 60) },
		"cap 0":              func(g *water.Ground) { g.Cells[0] = water.Cell{To: 1} },
		"cap below":          func(g *water.Ground) { g.Cells[0].Cap = -400 },
		"cap above":          func(g *water.Ground) { g.Cells[0].Cap = 100001 },
		"keep below":         func(g *water.Ground) { g.Cells[0].Keep = -1 },
		"keep above":         func(g *water.Ground) { g.Cells[0].Keep = 401 },
		"pass below":         func(g *water.Ground) { g.Cells[1].Pass = -1 },
		"pass above":         func(g *water.Ground) { g.Cells[1].Pass = 1001 },
		"first to itself":    func(g *water.Ground) { g.Cells[0].To = 0 },
		"last to itself":     func(g *water.Ground) { g.Cells[1].To = 1 },
		"to no cell":         func(g *water.Ground) { g.Cells[0].To = 2 },
		"to less than -1":    func(g *water.Ground) { g.Cells[1].To = -2 },
		"to wild":            func(g *water.Ground) { g.Cells[1].To = math.MaxInt },
		"pump below":         func(g *water.Ground) { g.Cells[0].Pump = -1 },
		"pump above":         func(g *water.Ground) { g.Cells[1].Pump = 100001 },
		"cap and level wild": func(g *water.Ground) { g.Cells[1].Cap, g.Cells[1].Level = math.MaxInt, just(math.MaxInt) },
	}
}

// refused asks all calls with days for an error, with other arguments that are not valid, either, as the error comes before theirs.
func refused(t *testing.T, name string, g water.Ground, days []water.Day, want api.Errno) {
	t.Helper()
	if levels, left, snow, e := water.Run(g, days, water.Truth{Snow: -1}); len(levels) != 0 || len(left) != 0 || snow != 0 || e != want {
		t.Error("Run:", name, levels, left, snow, e)
	}
	if levels, snow, e := water.Levels(g, days); len(levels) != 0 || len(snow) != 0 || e != want {
		t.Error("Levels:", name, levels, snow, e)
	}
	if a, b, e := water.Reach(g, days, -1, -1); a != 0 || b != 0 || e != want {
		t.Error("Reach:", name, a, b, e)
	}
	if x, e := water.Learn(g, days, make([]water.Reading, 31)); x != to(0, 0) || e != want {
		t.Error("Learn:", name, x, e)
	}
	if n, e := water.Least(g, days, -1, -1); n != 0 || e != want {
		t.Error("Least:", name, n, e)
	}
}

func TestP2_1InvalidGrounds(t *testing.T) {
	for name, change := range invalidGrounds() {
		g := bank()
		change(&g)
		if e := water.CheckGround(g); e != api.ErrArg {
			t.Error("CheckGround:", name, e)
		}
		refused(t, name, g, march(), api.ErrArg)
		refused(t, name+" and too many days", g, make([]water.Day, 31), api.ErrArg)
	}
}

func TestDays(t *testing.T) {
	for name, day := range map[string]water.Day{
		"rain below": {Rain: to(-1, 5)}, "rain above": {Rain: to(5, 1001)}, "rain turned": {Rain: to(6, 5)}, "rain wild": {Rain: to(math.MinInt, math.MaxInt)},
		"too cold": {Warm: -51}, "too warm": {Warm: 51}, "warm wild": {Warm: math.MinInt},
	} {
		refused(t, name, bank(), []water.Day{day}, api.ErrArg)
		refused(t, name+" at last", bank(), append(march(), day), api.ErrArg)
		refused(t, name+" of too many", bank(), append(make([]water.Day, 30), day), api.ErrLimit)
	}
	refused(t, "too many", bank(), make([]water.Day, 31), api.ErrLimit)
	for name, days := range map[string][]water.Day{
		"none": nil, "the most": make([]water.Day, 30),
		"at the limits": {{Rain: to(0, 1000), Warm: -50}, {Rain: just(1000), Warm: 50}},
	} {
		if levels, snow, e := water.Levels(bank(), days); len(levels) != len(days) || len(snow) != len(days) || e != api.OK {
			t.Error(name, levels, snow, e)
		}
	}
}

// sameRun holds what Run returns against evenings.
func sameRun(t *testing.T, name string, g water.Ground, days []water.Day, truth water.Truth, want []evening) {
	t.Helper()
	levels, left, snow, e := water.Run(g, days, truth)
	same := e == api.OK && len(levels) == len(want) && len(left) == len(want)
	last := truth.Snow
	for d, end := range want {
		same = same && slices.Equal(levels[d], end.levels) && left[d] == end.left
		last = end.snow
	}
	if !same || snow != last {
		t.Fatal(name, g, days, truth, levels, left, snow, e, "not", want)
	}
}

func TestP2_1RunOfTheExample(t *testing.T) {
	sameRun(t, "all Lo", bank(), march(), lowest(bank(), march()), []evening{{[]int{90, 35}, 35, 30}, {[]int{112, 51}, 82, 10}, {[]int{102, 35}, 34, 6}})
	sameRun(t, "all Hi", bank(), march(), highest(bank(), march()), []evening{{[]int{106, 39}, 35, 50}, {[]int{143, 74}, 88, 30}, {[]int{133, 58}, 54, 26}})
	sameRun(t, "no days", bank(), nil, lowest(bank(), nil), nil)
}

// Each of these has one cell, and a step of the day alone.
func TestP2_1RunOfOneCell(t *testing.T) {
	for _, x := range []struct {
		name  string
		g     water.Ground
		day   water.Day
		end   int
		left  int
		snow  int
		level int
	}{
		{"rain at 1 degree", water.Ground{Soak: just(1000)}, water.Day{Rain: just(7), Warm: 1}, 7, 0, 0, 0},
		{"snow falls at 0 degrees", water.Ground{Soak: just(1000)}, water.Day{Rain: just(7)}, 0, 0, 7, 0},
		{"and below", water.Ground{Soak: just(1000), Snow: just(3), Melt: 5}, water.Day{Rain: just(7), Warm: -4}, 0, 0, 10, 0},
		{"melts by degrees", water.Ground{Soak: just(1000), Snow: just(31), Melt: 5}, water.Day{Warm: 6}, 30, 0, 1, 0},
		{"melts as far as it lies", water.Ground{Soak: just(1000), Snow: just(29), Melt: 5}, water.Day{Rain: just(2), Warm: 6}, 31, 0, 0, 0},
		{"does not melt", water.Ground{Soak: just(1000), Snow: just(29)}, water.Day{Warm: 50}, 0, 0, 29, 0},
		{"soaks in rounded down", water.Ground{Soak: just(599)}, water.Day{Rain: just(5), Warm: 1}, 2, 3, 0, 0},
		{"rain and melt soak in together", water.Ground{Soak: just(500), Snow: just(3), Melt: 3}, water.Day{Rain: just(3), Warm: 1}, 3, 3, 0, 0},
		{"nothing soaks in", water.Ground{Soak: just(0)}, water.Day{Rain: just(5), Warm: 1}, 0, 5, 0, 0},
		{"pumps", water.Ground{Cells: []water.Cell{{Pump: 6}}}, water.Day{}, 14, 6, 0, 20},
		{"pumps what there is", water.Ground{Cells: []water.Cell{{Pump: 21}}}, water.Day{}, 0, 20, 0, 20},
		{"does not pump rain", water.Ground{Soak: just(1000), Cells: []water.Cell{{Pump: 21}}}, water.Day{Rain: just(9), Warm: 1}, 9, 20, 0, 20},
		{"passes on what is above keep, rounded down", water.Ground{Cells: []water.Cell{{Keep: 5, Pass: 333}}}, water.Day{}, 16, 4, 0, 20},
		{"passes on nothing at keep", water.Ground{Cells: []water.Cell{{Keep: 20, Pass: 1000}}}, water.Day{}, 20, 0, 0, 20},
		{"nor below keep", water.Ground{Cells: []water.Cell{{Keep: 29, Pass: 1000}}}, water.Day{}, 20, 0, 0, 20},
		{"pumps first", water.Ground{Cells: []water.Cell{{Keep: 10, Pass: 1000, Pump: 4}}}, water.Day{}, 10, 10, 0, 20},
		{"pumps below keep", water.Ground{Cells: []water.Cell{{Keep: 18, Pass: 1000, Pump: 4}}}, water.Day{}, 16, 4, 0, 20},
		{"flows over", water.Ground{Soak: just(1000)}, water.Day{Rain: just(85), Warm: 1}, 100, 5, 0, 20},
		{"is full", water.Ground{Soak: just(1000)}, water.Day{Rain: just(80), Warm: 1}, 100, 0, 0, 20},
		{"flows over behind the pump", water.Ground{Soak: just(1000), Cells: []water.Cell{{Pump: 3}}}, water.Day{Rain: just(85), Warm: 1}, 100, 5, 0, 20},
	} {
		if len(x.g.Cells) == 0 {
			x.g.Cells = make([]water.Cell, 1)
		}
		x.g.Cells[0].Cap, x.g.Cells[0].Level, x.g.Cells[0].To = 100, just(x.level), -1
		days := []water.Day{x.day}
		sameRun(t, x.name, x.g, days, lowest(x.g, days), []evening{{[]int{x.end}, x.left, x.snow}})
	}
}

func TestP2_1RunOfSeveralCells(t *testing.T) {
	ring := water.Ground{Snow: just(5), Soak: just(1000), Melt: 3, Cells: []water.Cell{{Level: just(40), Cap: 50, Pass: 500, To: 1}, {Level: just(100), Cap: 100, Pass: 900, To: 0}}}
	days := []water.Day{{Rain: just(4)}, {Rain: just(10), Warm: 1}}
	sameRun(t, "a ring", ring, days, lowest(ring, days), []evening{{[]int{50, 30}, 60, 9}, {[]int{50, 41}, 15, 6}})
	// All is passed on by the levels at the beginning, so water takes a day for each cell.
	chain := pools(3)
	for i, next := range []int{1, 2, -1} {
		chain.Cells[i].Pass, chain.Cells[i].To = 1000, next
	}
	chain.Cells[0].Level = just(30)
	days = make([]water.Day, 3)
	sameRun(t, "down a chain", chain, days, lowest(chain, days), []evening{{[]int{0, 30, 0}, 0, 0}, {[]int{0, 0, 30}, 0, 0}, {[]int{0, 0, 0}, 30, 0}})
	chain.Cells[0].To, chain.Cells[1].To, chain.Cells[2].To = -1, 0, 1
	chain.Cells[0].Level, chain.Cells[2].Level = just(0), just(30)
	sameRun(t, "up a chain", chain, days, lowest(chain, days), []evening{{[]int{0, 30, 0}, 0, 0}, {[]int{30, 0, 0}, 0, 0}, {[]int{0, 0, 0}, 30, 0}})
	// Two pass on to the third, which flows over only behind all that it gets.
	funnel := pools(3)
	for i, next := range []int{2, 2, -1} {
		funnel.Cells[i].Pass, funnel.Cells[i].To, funnel.Cells[i].Level = 500, next, just(80)
	}
	funnel.Soak = just(250)
	days = []water.Day{{Rain: just(22), Warm: 9}}
	sameRun(t, "a funnel", funnel, days, lowest(funnel, days), []evening{{[]int{45, 45, 100}, 3*17 + 40 + 25, 0}})
}

func TestP2_1RunOfAny(t *testing.T) {
	r := chance()
	for i := range 2000 {
		g, days := someGround(r)
		if i%50 == 0 {
			g, days = anyGround(r, 8, anyRange), anyDays(r, 30, anyRange)
		}
		truth := anyTruth(r, g, days)
		sameRun(t, "any", g, days, truth, reckoned(g, days, truth))
	}
}

func TestP2_1RunErrors(t *testing.T) {
	for name, change := range map[string]func(x *water.Truth){
		"nothing":         func(x *water.Truth) { *x = water.Truth{} },
		"less snow":       func(x *water.Truth) { x.Snow = 19 },
		"more snow":       func(x *water.Truth) { x.Snow = 31 },
		"less soak":       func(x *water.Truth) { x.Soak = 499 },
		"more soak":       func(x *water.Truth) { x.Soak = 601 },
		"lower level":     func(x *water.Truth) { x.Levels[0] = 99 },
		"higher level":    func(x *water.Truth) { x.Levels[1] = 61 },
		"no level":        func(x *water.Truth) { x.Levels = nil },
		"a level less":    func(x *water.Truth) { x.Levels = x.Levels[:1] },
		"a level more":    func(x *water.Truth) { x.Levels = append(x.Levels, 60) },
		"less rain":       func(x *water.Truth) { x.Rain[0] = 9 },
		"more rain":       func(x *water.Truth) { x.Rain[2] = 11 },
		"no rain":         func(x *water.Truth) { x.Rain = nil },
		"a rain less":     func(x *water.Truth) { x.Rain = x.Rain[:2] },
		"a rain more":     func(x *water.Truth) { x.Rain = append(x.Rain, 5) },
		"wild":            func(x *water.Truth) { x.Snow, x.Soak = math.MaxInt, math.MinInt },
		"a long list":     func(x *water.Truth) { x.Levels = make([]int, 100000) },
		"a long, dry one": func(x *water.Truth) { x.Rain = make([]int, 100000) },
	} {
		truth := lowest(bank(), march())
		change(&truth)
		if levels, left, snow, e := water.Run(bank(), march(), truth); len(levels) != 0 || len(left) != 0 || snow != 0 || e != api.ErrFail {
			t.Error(name, levels, left, snow, e)
		}
	}
	if _, _, _, e := water.Run(bank(), nil, water.Truth{Snow: 20, Soak: 500, Levels: []int{100, 60}, Rain: []int{0}}); e != api.ErrFail {
		t.Error("rain of no day:", e)
	}
}

func sameSpans(a, b [][]water.Range) bool { return slices.EqualFunc(a, b, slices.Equal[[]water.Range]) }

func TestP2_2Levels(t *testing.T) {
	want := [][]water.Range{{to(90, 106), to(35, 39)}, {to(112, 143), to(51, 74)}, {to(102, 133), to(35, 58)}}
	if levels, snow, e := water.Levels(bank(), march()); e != api.OK || !sameSpans(levels, want) || !slices.Equal(snow, []water.Range{to(30, 50), to(10, 30), to(6, 26)}) {
		t.Error("the example:", levels, snow, e)
	}
	if levels, snow, e := water.Levels(bank(), []water.Day{}); len(levels) != 0 || len(snow) != 0 || e != api.OK {
		t.Error("no days:", levels, snow, e)
	}
	heavy := pools(1)
	heavy.Snow = to(0, 100000)
	days := slices.Repeat([]water.Day{{Rain: to(0, 1000), Warm: -50}}, 30)
	if _, snow, e := water.Levels(heavy, days); e != api.OK || snow[29] != to(0, 130000) {
		t.Error("snow has no greatest depth:", snow, e)
	}
}

func TestP2_2LevelsOfAny(t *testing.T) {
	r := chance()
	for range 200 {
		g, days := anyGround(r, 1+r.Intn(3), narrow), anyDays(r, r.Intn(5), narrow)
		wantLevels, wantSnow := spansOf(g, days)
		levels, snow, e := water.Levels(g, days)
		if e != api.OK || !sameSpans(levels, wantLevels) || !slices.Equal(snow, wantSnow) {
			t.Fatal(g, days, levels, snow, e, "not", wantLevels, wantSnow)
		}
	}
}

func TestP2_3Reach(t *testing.T) {
	for _, x := range []struct{ cell, level, perhaps, surely int }{
		{1, 60, 1, -1}, {1, 35, 0, 0}, {1, 36, 0, 1}, {1, 39, 0, 1}, {1, 40, 1, 1}, {1, 51, 1, 1}, {1, 52, 1, -1}, {1, 74, 1, -1}, {1, 75, -1, -1}, {1, 100000, -1, -1},
		{0, 0, 0, 0}, {0, 90, 0, 0}, {0, 91, 0, 1}, {0, 106, 0, 1}, {0, 107, 1, 1}, {0, 112, 1, 1}, {0, 113, 1, -1}, {0, 143, 1, -1}, {0, 144, -1, -1},
	} {
		if a, b, e := water.Reach(bank(), march(), x.cell, x.level); a != x.perhaps || b != x.surely || e != api.OK {
			t.Error(x, a, b, e)
		}
	}
	// The first level is not reached by a day: the cell is at 60 before all days, and below it after the first one.
	if a, b, e := water.Reach(bank(), march()[:1], 1, 60); a != -1 || b != -1 || e != api.OK {
		t.Error("before all days:", a, b, e)
	}
	if a, b, e := water.Reach(bank(), nil, 0, 0); a != -1 || b != -1 || e != api.OK {
		t.Error("no days:", a, b, e)
	}
	for _, x := range [][2]int{{2, 5}, {-1, 5}, {0, -1}, {1, 100001}, {math.MaxInt, 5}, {math.MinInt, 5}, {0, math.MaxInt}, {0, math.MinInt}} {
		if a, b, e := water.Reach(bank(), march(), x[0], x[1]); a != 0 || b != 0 || e != api.ErrRange {
			t.Error("Reach:", x, a, b, e)
		}
	}
}

func TestP2_3ReachOfAny(t *testing.T) {
	r := chance()
	for range 150 {
		g, days := anyGround(r, 1+r.Intn(3), narrow), anyDays(r, r.Intn(5), narrow)
		levels, _ := spansOf(g, days)
		for cell, c := range g.Cells {
			for level := 0; level <= c.Cap+1; level++ {
				perhaps := slices.IndexFunc(levels, func(x []water.Range) bool { return x[cell].Hi >= level })
				surely := slices.IndexFunc(levels, func(x []water.Range) bool { return x[cell].Lo >= level })
				if a, b, e := water.Reach(g, days, cell, level); a != perhaps || b != surely || e != api.OK {
					t.Fatal(g, days, cell, level, a, b, e, "not", perhaps, surely)
				}
			}
		}
	}
}

// known is the bank, with nothing but the soak that is not known; on its day 30 come down: 15 soak in up to 533, 16 up to 566, 17 up to 599, 18 with 600.
func known() (water.Ground, []water.Day) {
	g := bank()
	g.Snow, g.Cells[0].Level = just(20), just(100)
	return g, []water.Day{{Rain: just(10), Warm: 5}, {}}
}

func TestP2_4Learn(t *testing.T) {
	g, days := known()
	for _, x := range []struct {
		name string
		l    []water.Reading
		want water.Range
	}{
		{"no readings", nil, to(500, 600)},
		{"an empty list", []water.Reading{}, to(500, 600)},
		{"one", []water.Reading{read(0, 0, 106, 106)}, to(534, 566)},
		{"the least", []water.Reading{read(0, 0, 0, 105)}, to(500, 533)},
		{"the greatest", []water.Reading{read(1, 0, 53, 53)}, to(600, 600)},
		{"none is left out", []water.Reading{read(0, 0, 0, 100000)}, to(500, 600)},
		{"two of a cell", []water.Reading{read(0, 0, 0, 106), read(0, 0, 106, 200)}, to(534, 566)},
		{"two of a cell, the narrow one first", []water.Reading{read(0, 0, 106, 106), read(0, 0, 0, 200)}, to(534, 566)},
		{"two cells", []water.Reading{read(0, 0, 106, 120), read(1, 0, 0, 52)}, to(534, 599)},
		{"the day behind", []water.Reading{read(0, 1, 95, 95)}, to(534, 566)},
		{"as many as there may be", slices.Repeat([]water.Reading{read(0, 0, 106, 106)}, 30), to(534, 566)},
	} {
		if got, e := water.Learn(g, days, x.l); got != x.want || e != api.OK {
			t.Error(x.name, got, e)
		}
	}
	if got, e := water.Learn(pools(1), nil, nil); got != to(0, 0) || e != api.OK {
		t.Error("no days:", got, e)
	}
}

func TestP2_4LearnErrors(t *testing.T) {
	g, days := known()
	wrong := read(2, 0, 0, 1)
	for name, l := range map[string][]water.Reading{
		"no such cell": {wrong}, "no cell": {read(-1, 0, 0, 1)}, "no such day": {read(0, 2, 0, 1)}, "no day": {read(0, -1, 0, 1)},
		"turned": {read(0, 0, 2, 1)}, "below": {read(0, 0, -1, 1)}, "above": {read(0, 0, 1, 100001)},
		"wild": {read(math.MaxInt, math.MinInt, 0, 1)}, "behind one that no soak makes": {read(0, 0, 0, 0), wrong},
	} {
		if got, e := water.Learn(g, days, l); got != to(0, 0) || e != api.ErrRange {
			t.Error(name, got, e)
		}
		if got, e := water.Learn(bank(), days, l); got != to(0, 0) || e != api.ErrRange {
			t.Error(name, "of what is not known:", got, e)
		}
	}
	if got, e := water.Learn(g, nil, []water.Reading{read(0, 0, 0, 1)}); got != to(0, 0) || e != api.ErrRange {
		t.Error("of no days:", got, e)
	}
	for name, one := range map[string]water.Reading{"valid": read(0, 0, 0, 200), "wrong": wrong} {
		if got, e := water.Learn(bank(), days, slices.Repeat([]water.Reading{one}, 31)); got != to(0, 0) || e != api.ErrLimit {
			t.Error("31 that are", name, got, e)
		}
	}
	for name, change := range map[string]func(g *water.Ground, days []water.Day){
		"snow":        func(g *water.Ground, days []water.Day) { g.Snow.Hi++ },
		"a level":     func(g *water.Ground, days []water.Day) { g.Cells[1].Level.Lo-- },
		"rain":        func(g *water.Ground, days []water.Day) { days[0].Rain.Hi++ },
		"what snowed": func(g *water.Ground, days []water.Day) { days[1].Rain.Hi++ },
	} {
		g, days := known()
		change(&g, days)
		for _, l := range [][]water.Reading{nil, {read(0, 0, 0, 0)}} {
			if got, e := water.Learn(g, days, l); got != to(0, 0) || e != api.ErrState {
				t.Error(name, "is not known:", got, e)
			}
		}
	}
	for name, l := range map[string][]water.Reading{
		"too high": {read(0, 0, 109, 120)}, "too low": {read(0, 0, 0, 104)},
		"two cells": {read(0, 0, 105, 105), read(1, 0, 53, 53)}, "two days": {read(0, 0, 105, 105), read(0, 1, 95, 95)},
		"two of a cell": {read(0, 0, 0, 105), read(0, 0, 106, 200)}, "two of a cell, far from each other": {read(0, 0, 107, 200), read(0, 0, 0, 105)},
	} {
		if got, e := water.Learn(g, days, l); got != to(0, 0) || e != api.ErrNone {
			t.Error(name, got, e)
		}
	}
	// 3000 come down, so each thousandth more is 3 more in the cell, and what lies between is left out.
	g.Snow, g.Soak, g.Melt = just(2000), to(0, 1000), 50
	g.Cells[0].Cap, g.Cells[0].Pass = 4000, 0
	days[0] = water.Day{Rain: just(1000), Warm: 40}
	for level, want := range map[int]api.Errno{99: api.ErrNone, 100: api.OK, 101: api.ErrNone, 102: api.ErrNone, 103: api.OK, 3100: api.OK, 3101: api.ErrNone} {
		if got, e := water.Learn(g, days, []water.Reading{read(0, 0, level, level)}); e != want || e == api.OK && got != just((level-100)/3) {
			t.Error(level, got, e)
		}
	}
}

func TestP2_4LearnOfAny(t *testing.T) {
	r := chance()
	for range 300 {
		g, days := sureGround(r)
		l := readingsOf(r, g, days, r.Intn(1001), 3)
		all := soaksOf(g, days, l)
		got, e := water.Learn(g, days, l)
		if len(all) == 0 {
			if got != to(0, 0) || e != api.ErrNone {
				t.Fatal(g, days, l, got, e)
			}
			continue
		}
		if got != to(all[0], all[len(all)-1]) || len(all) != got.Hi-got.Lo+1 || e != api.OK {
			t.Fatal(g, days, l, got, e, all)
		}
	}
}

func TestP2_5Least(t *testing.T) {
	for level, want := range map[int]int{70: 15, 60: 28, 59: 30, 74: 10, 75: 8, 150: 0, 100000: 0} {
		if n, e := water.Least(bank(), march(), 1, level); n != want || e != api.OK {
			t.Error(level, n, e)
		}
	}
	for _, level := range []int{58, 0} {
		if n, e := water.Least(bank(), march(), 1, level); n != 0 || e != api.ErrFail {
			t.Error("that is none:", level, n, e)
		}
	}
	for _, x := range [][2]int{{2, 5}, {-1, 5}, {0, -1}, {1, 100001}, {math.MaxInt, 5}, {math.MinInt, 5}, {0, math.MaxInt}, {0, math.MinInt}} {
		if n, e := water.Least(bank(), march(), x[0], x[1]); n != 0 || e != api.ErrRange {
			t.Error(x, n, e)
		}
	}
	// The pump that the cell has does not count, and a first level that is above is no day's.
	pumped := pumping(bank(), 0, 100000)
	if n, e := water.Least(pumped, march(), 0, 143); n != 0 || e != api.OK {
		t.Error("for what no pump is needed:", n, e)
	}
	if n, e := water.Least(bank(), nil, 0, 0); n != 0 || e != api.OK {
		t.Error("no days:", n, e)
	}
	deep := pools(1)
	deep.Cells[0].Cap, deep.Cells[0].Level = 100000, to(0, 100000)
	for level, want := range map[int]int{0: 100000, 1: 99999, 99999: 1, 100000: 0} {
		if n, e := water.Least(deep, make([]water.Day, 1), 0, level); n != want || e != api.OK {
			t.Error("of the deepest cell:", level, n, e)
		}
	}
}

func TestP2_5LeastOfAny(t *testing.T) {
	r := chance()
	for range 300 {
		g, days := someGround(r)
		cell := r.Intn(len(g.Cells))
		level := r.Intn(g.Cells[cell].Cap + 2)
		want := pumpOf(g, days, cell, level)
		n, e := water.Least(g, days, cell, level)
		if want == -1 && (n != 0 || e != api.ErrFail) || want >= 0 && (n != want || e != api.OK) {
			t.Fatal(g, days, cell, level, n, e, "not", want)
		}
	}
}
