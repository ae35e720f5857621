package water_test

import (
	"math/rand"
	"reflect"
	"slices"
	"testing"

	"sackung/api"
	"sackung/water"
)

// ran is what Run returns, which has to be no error.
func ran(t *testing.T, g water.Ground, days []water.Day, truth water.Truth) (levels [][]int, left []int, snow int) {
	t.Helper()
	levels, left, snow, e := water.Run(g, days, truth)
	if e != api.OK {
		t.Fatal(g, days, truth, e)
	}
	return levels, left, snow
}

func TestP2_6AnyTruth(t *testing.T) {
	r := chance()
	for range 500 {
		g, days := someGround(r)
		levels, snow, e := water.Levels(g, days)
		if e != api.OK {
			t.Fatal(g, days, e)
		}
		// Snow is told in the end alone, so it is asked for after each number of days.
		for n := range len(days) + 1 {
			truth := anyTruth(r, g, days[:n])
			low, _, lowSnow := ran(t, g, days[:n], lowest(g, days[:n]))
			high, _, highSnow := ran(t, g, days[:n], highest(g, days[:n]))
			some, _, someSnow := ran(t, g, days[:n], truth)
			if n > 0 && (snow[n-1] != to(lowSnow, highSnow) || someSnow < lowSnow || someSnow > highSnow) {
				t.Fatal("snow:", g, days, truth, snow, someSnow)
			}
			for d, cells := range some {
				for i, level := range cells {
					if x := levels[d][i]; x != to(low[d][i], high[d][i]) || level < x.Lo || level > x.Hi {
						t.Fatal(g, days, truth, x, level)
					}
				}
			}
		}
	}
}

func total(numbers []int) int {
	n := 0
	for _, number := range numbers {
		n += number
	}
	return n
}

func TestP2_7NothingIsLost(t *testing.T) {
	r := chance()
	for range 1000 {
		g, days := someGround(r)
		truth := anyTruth(r, g, days)
		levels, left, snow := ran(t, g, days, truth)
		last := truth.Levels
		if len(days) > 0 {
			last = levels[len(days)-1]
		}
		before := (truth.Snow+total(truth.Rain))*len(g.Cells) + total(truth.Levels)
		if after := snow*len(g.Cells) + total(last) + total(left); before != after {
			t.Fatal(g, days, truth, before, after)
		}
	}
}

// raised is a truth with a greater number of some range, if there is one.
func raised(r *rand.Rand, g water.Ground, days []water.Day, truth water.Truth) water.Truth {
	x := copiedTruth(truth)
	switch r.Intn(4) {
	case 0:
		x.Snow = anyIn(r, to(x.Snow, g.Snow.Hi))
	case 1:
		x.Soak = anyIn(r, to(x.Soak, g.Soak.Hi))
	case 2:
		i := r.Intn(len(g.Cells))
		x.Levels[i] = anyIn(r, to(x.Levels[i], g.Cells[i].Level.Hi))
	default:
		if len(days) > 0 {
			d := r.Intn(len(days))
			x.Rain[d] = anyIn(r, to(x.Rain[d], days[d].Rain.Hi))
		}
	}
	return x
}

// noneLess tells whether no level is less than another list has it.
func noneLess(levels, than [][]int) bool {
	return slices.EqualFunc(levels, than, func(a, b []int) bool {
		return slices.EqualFunc(a, b, func(x, y int) bool { return x >= y })
	})
}

func TestP2_8More(t *testing.T) {
	r := chance()
	for range 2000 {
		g, days := someGround(r)
		truth := anyTruth(r, g, days)
		more := raised(r, g, days, truth)
		levels, _, snow := ran(t, g, days, truth)
		above, _, deeper := ran(t, g, days, more)
		if !noneLess(above, levels) || deeper < snow {
			t.Fatal(g, days, truth, more, levels, above, snow, deeper)
		}
		cell := r.Intn(len(g.Cells))
		strong := pumping(g, cell, g.Cells[cell].Pump+r.Intn(20))
		below, _, same := ran(t, strong, days, truth)
		if !noneLess(levels, below) || same != snow {
			t.Fatal("pump:", g, strong, days, truth, levels, below)
		}
	}
}

// sooner tells whether a day on which something is reached is no later than another one; -1 is later than all days.
func sooner(a, b int) bool { return uint(a) <= uint(b) }

func TestP2_9Reached(t *testing.T) {
	r := chance()
	for range 500 {
		g, days := someGround(r)
		cell := r.Intn(len(g.Cells))
		level := r.Intn(g.Cells[cell].Cap + 1)
		perhaps, surely, e := water.Reach(g, days, cell, level)
		above, surelyAbove, f := water.Reach(g, days, cell, level+1+r.Intn(5))
		if e != api.OK || f != api.OK || !sooner(perhaps, surely) || !sooner(perhaps, above) || !sooner(surely, surelyAbove) {
			t.Fatal(g, days, cell, level, perhaps, surely, above, surelyAbove, e, f)
		}
		for range 5 {
			truth := anyTruth(r, g, days)
			levels, _, _ := ran(t, g, days, truth)
			day := slices.IndexFunc(levels, func(x []int) bool { return x[cell] >= level })
			if !sooner(perhaps, day) || !sooner(day, surely) {
				t.Fatal(g, days, truth, cell, level, day, perhaps, surely)
			}
		}
	}
}

func TestP2_10WhatWellsTell(t *testing.T) {
	r := chance()
	for range 200 {
		g, days := sureGround(r)
		soak := anyIn(r, g.Soak)
		l := readingsOf(r, g, days, soak, 2)
		got, e := water.Learn(g, days, l)
		if e != api.OK || soak < got.Lo || soak > got.Hi {
			t.Fatal("the soak that made them:", g, days, l, soak, got, e)
		}
		truth := lowest(g, days)
		for truth.Soak = g.Soak.Lo; truth.Soak <= g.Soak.Hi; truth.Soak++ {
			levels, _, _ := ran(t, g, days, truth)
			met := !slices.ContainsFunc(l, func(x water.Reading) bool {
				level := levels[x.Day][x.Cell]
				return level < x.Level.Lo || level > x.Level.Hi
			})
			if met != (got.Lo <= truth.Soak && truth.Soak <= got.Hi) {
				t.Fatal(g, days, l, truth.Soak, got)
			}
		}
		more := append(slices.Clone(l), read(r.Intn(len(g.Cells)), r.Intn(len(days)), 0, r.Intn(90)))
		narrower, e := water.Learn(g, days, more)
		if e != api.ErrNone && (e != api.OK || narrower.Lo < got.Lo || narrower.Hi > got.Hi) {
			t.Fatal("one more:", g, days, more, narrower, got, e)
		}
	}
}

// P7: readings lead to the same, in whatever order they are given.
func TestP2_10ReadingsInAnyOrder(t *testing.T) {
	r := chance()
	for range 300 {
		g, days := sureGround(r)
		l := append(readingsOf(r, g, days, r.Intn(1001), 2), readingsOf(r, g, days, r.Intn(1001), 2)...)
		want, e := water.Learn(g, days, l)
		r.Shuffle(len(l), func(i, k int) { l[i], l[k] = l[k], l[i] })
		if got, f := water.Learn(g, days, l); got != want || e != f {
			t.Fatal(g, days, l, got, f, "not", want, e)
		}
	}
}

func highestOf(t *testing.T, g water.Ground, days []water.Day, truth water.Truth, cell int) int {
	levels, _, _ := ran(t, g, days, truth)
	most := 0
	for _, cells := range levels {
		most = max(most, cells[cell])
	}
	return most
}

func TestP2_11Pumps(t *testing.T) {
	r := chance()
	for range 500 {
		g, days := someGround(r)
		cell := r.Intn(len(g.Cells))
		level := r.Intn(g.Cells[cell].Cap + 1)
		pump, e := water.Least(g, days, cell, level)
		if e == api.ErrFail {
			pump = api.MaxDepth + 1
		}
		if e == api.OK {
			kept := pumping(g, cell, pump)
			for _, truth := range []water.Truth{highest(g, days), lowest(g, days), anyTruth(r, g, days)} {
				if highestOf(t, kept, days, truth, cell) > level {
					t.Fatal("not kept:", kept, days, truth, cell, level)
				}
			}
		}
		if pump > 0 {
			lesser := pumping(g, cell, pump-1)
			if highestOf(t, lesser, days, highest(g, days), cell) <= level {
				t.Fatal("kept by a lesser one:", lesser, days, cell, level)
			}
		}
	}
}

func TestP2_12DaysBehind(t *testing.T) {
	r := chance()
	for range 300 {
		g, days := someGround(r)
		truth := anyTruth(r, g, days)
		levels, snow, _ := water.Levels(g, days)
		ranLevels, left, _ := ran(t, g, days, truth)
		for n := range len(days) + 1 {
			first, firstSnow, e := water.Levels(g, days[:n])
			if e != api.OK || !sameSpans(first, levels[:n]) || !slices.Equal(firstSnow, snow[:n]) {
				t.Fatal(g, days, n, first, levels, e)
			}
			short := copiedTruth(truth)
			short.Rain = short.Rain[:n]
			begun, begunLeft, _ := ran(t, g, days[:n], short)
			if !reflect.DeepEqual(begun, ranLevels[:n]) && n > 0 || !slices.Equal(begunLeft, left[:n]) {
				t.Fatal(g, days, n, begun, ranLevels)
			}
		}
	}
}

// R4: arguments stay as they are, and results are new memory.
func TestArgumentsStay(t *testing.T) {
	g, days, truth := bank(), march(), lowest(bank(), march())
	sure, few := known()
	l := []water.Reading{read(0, 0, 0, 106), read(0, 0, 106, 200)}
	water.CheckGround(g)
	water.Run(g, days, truth)
	water.Levels(g, days)
	water.Reach(g, days, 1, 60)
	water.Least(g, days, 1, 60)
	water.Learn(sure, few, l)
	wantSure, wantFew := known()
	if !reflect.DeepEqual(g, bank()) || !reflect.DeepEqual(days, march()) || !reflect.DeepEqual(truth, lowest(bank(), march())) {
		t.Error("an argument was changed:", g, days, truth)
	}
	if !reflect.DeepEqual(sure, wantSure) || !reflect.DeepEqual(few, wantFew) || !slices.Equal(l, []water.Reading{read(0, 0, 0, 106), read(0, 0, 106, 200)}) {
		t.Error("an argument of Learn was changed:", sure, few, l)
	}
}

// apart overwrites each row of a result, and what lies behind it, and finds out whether another row is changed by that.
func apart[T any](t *testing.T, rows [][]T, other T) {
	t.Helper()
	for d, row := range rows {
		var whole [][]T
		for _, x := range rows {
			whole = append(whole, slices.Clone(x))
		}
		for i := range row {
			row[i], whole[d][i] = other, other
		}
		_ = append(row, other)
		if !reflect.DeepEqual(rows, whole) {
			t.Fatal("rows share memory:", rows, whole)
		}
	}
}

func TestResultsShareNothing(t *testing.T) {
	g, days, truth := bank(), march(), lowest(bank(), march())
	ranLevels, _, _ := ran(t, g, days, truth)
	apart(t, ranLevels, -7)
	levels, _, _ := water.Levels(g, days)
	apart(t, levels, to(-7, -7))
	if !reflect.DeepEqual(truth, lowest(bank(), march())) || !reflect.DeepEqual(g, bank()) {
		t.Error("an argument was changed by a result:", g, truth)
	}
	sameRun(t, "again", g, days, truth, reckoned(g, days, truth))
}

// P1: each call ends, and does not panic, also for grounds at all limits at once.
func TestLimitsAtOnce(t *testing.T) {
	g := water.Ground{Snow: to(0, 100000), Soak: to(0, 1000), Melt: 50}
	for i := range 8 {
		g.Cells = append(g.Cells, water.Cell{Level: to(0, 100000), Cap: 100000, Pass: 1000, To: (i + 1) % 8})
	}
	days := slices.Repeat([]water.Day{{Rain: to(0, 1000), Warm: 50}, {Rain: to(0, 1000), Warm: -50}}, 15)
	sameRun(t, "all Hi", g, days, highest(g, days), reckoned(g, days, highest(g, days)))
	levels, snow, e := water.Levels(g, days)
	if e != api.OK || levels[0][0] != to(0, 100000) || snow[1] != to(0, 98500) {
		t.Error(levels, snow, e)
	}
	if n, e := water.Least(g, days, 0, 100000); n != 0 || e != api.OK {
		t.Error("Least:", n, e)
	}
	if n, e := water.Least(g, days, 0, 99999); n != 0 || e != api.ErrFail {
		t.Error("Least that is none:", n, e)
	}
	if a, b, e := water.Reach(g, days, 7, 100000); a != 0 || b != -1 || e != api.OK {
		t.Error("Reach:", a, b, e)
	}
	if x, e := water.Learn(broken(), days, nil); x != to(0, 0) || e != api.ErrArg {
		t.Error("Learn:", x, e)
	}
}
