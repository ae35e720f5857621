package slope_test

import (
	"math"
	"math/rand"
	"reflect"
	"slices"
	"testing"

	"sackung/api"
	"sackung/slope"
)

func anyIn(r *rand.Rand, x slope.Range) int { return x.Lo + r.Intn(x.Hi-x.Lo+1) }

func anyTruth(r *rand.Rand, s slope.Slope, u slope.Surface) []slope.Real {
	var truth []slope.Real
	for i, n := range u.Beds {
		b := s.Columns[u.From+i][n]
		truth = append(truth, slope.Real{Friction: anyIn(r, b.Friction), Cohesion: anyIn(r, b.Cohesion), Water: anyIn(r, b.Water)})
	}
	return truth
}

// truthsOf has all truths of a surface, one after the other.
func truthsOf(s slope.Slope, u slope.Surface) [][]slope.Real {
	list := [][]slope.Real{nil}
	for i, n := range u.Beds {
		b := s.Columns[u.From+i][n]
		var longer [][]slope.Real
		for _, truth := range list {
			for f := b.Friction.Lo; f <= b.Friction.Hi; f++ {
				for c := b.Cohesion.Lo; c <= b.Cohesion.Hi; c++ {
					for w := b.Water.Lo; w <= b.Water.Hi; w++ {
						longer = append(longer, append(slices.Clone(truth), slope.Real{Friction: f, Cohesion: c, Water: w}))
					}
				}
			}
		}
		list = longer
	}
	return list
}

func narrow(r *rand.Rand, limit int) slope.Range {
	low := r.Intn(limit)
	return to(low, low+r.Intn(2))
}

func TestP1_7AnyTruth(t *testing.T) {
	r := chance()
	for range 60 {
		s := slope.Slope{Least: 1}
		for range 2 {
			s.Columns = append(s.Columns, []slope.Bed{bed(r.Intn(30)-5, r.Intn(20), narrow(r, 1500), narrow(r, 20), narrow(r, 25)), bed(r.Intn(30)-5, r.Intn(20), narrow(r, 1500), narrow(r, 20), narrow(r, 25))})
		}
		for _, u := range surfacesOf(s) {
			span, e := slope.Span(s, u)
			if e != api.OK {
				continue
			}
			least, greatest := math.MaxInt, math.MinInt
			for _, truth := range truthsOf(s, u) {
				n, e := slope.Factor(s, u, truth)
				if e != api.OK {
					t.Fatal(s, u, truth, e)
				}
				least, greatest = min(least, n), max(greatest, n)
			}
			if span != to(least, greatest) {
				t.Fatal(s, u, span, least, greatest)
			}
		}
	}
}

func TestP1_8NoneIsLower(t *testing.T) {
	r := chance()
	for range 300 {
		s := smallSlope(r)
		_, least, e := slope.Worst(s)
		for _, u := range surfacesOf(s) {
			n, f := slope.Factor(s, u, anyTruth(r, s, u))
			if f == api.OK && (e != api.OK || n < least) {
				t.Fatal(s, u, n, least, e)
			}
		}
		if e == api.ErrNone {
			least = api.MaxFactor
		}
		for _, factor := range []int{least, least + 1, r.Intn(10001)} {
			_, f := slope.Proof(s, factor)
			if (f == api.OK) != (factor <= least) {
				t.Fatal("Proof:", s, factor, least, f)
			}
		}
	}
}

// A table that proves a lower factor, or that was changed, never proves a factor that is too great.
func TestP1_8NoTableProvesTooMuch(t *testing.T) {
	r := chance()
	for range 300 {
		s := smallSlope(r)
		least := leastOf(s)
		if least >= api.MaxFactor {
			continue
		}
		x, _ := slope.Proof(s, least)
		for range 20 {
			y := copiedTable(x)
			row := y[r.Intn(len(y))]
			numbers := row[r.Intn(len(row))]
			numbers[r.Intn(len(numbers))] += r.Intn(200001) - 100000
			if slope.ProveLeast(s, least+1, y) || slope.ProveLeast(s, 10000, y) {
				t.Fatal(s, least, y)
			}
		}
	}
}

func TestP1_9Water(t *testing.T) {
	r := chance()
	for range 300 {
		s := smallSlope(r)
		factor := r.Intn(1200)
		n, e := slope.Margin(s, factor)
		if (e == api.OK) != (leastOf(s) >= factor) {
			t.Fatal(s, factor, n, e)
		}
		if e == api.OK && (leastOf(wetter(s, n)) < factor || n < api.MaxForce && leastOf(wetter(s, n+1)) >= factor) {
			t.Fatal("margin:", s, factor, n)
		}
		wet := wetter(s, 1+r.Intn(100))
		_, before, none := slope.Worst(s)
		_, after, noneWet := slope.Worst(wet)
		if none != noneWet || after > before {
			t.Fatal("least factor with more water:", s, before, after)
		}
		for _, u := range surfacesOf(s) {
			dry, e := slope.Span(s, u)
			got, f := slope.Span(wet, u)
			if e != f || got.Lo > dry.Lo || got.Hi > dry.Hi {
				t.Fatal("span with more water:", s, u, dry, got)
			}
		}
	}
}

func someBed(r *rand.Rand, s slope.Slope) *slope.Bed {
	column := s.Columns[r.Intn(len(s.Columns))]
	return &column[r.Intn(len(column))]
}

func TestP1_10Stronger(t *testing.T) {
	r := chance()
	for range 600 {
		s := smallSlope(r)
		strong := copied(s)
		b := someBed(r, strong)
		switch r.Intn(3) {
		case 0:
			b.Friction.Lo = anyIn(r, b.Friction)
		case 1:
			b.Cohesion.Lo = anyIn(r, b.Cohesion)
		default:
			b.Drive -= r.Intn(50)
		}
		_, before, e := slope.Worst(s)
		_, after, f := slope.Worst(strong)
		if e == api.ErrNone && f != api.ErrNone || f == api.OK && after < before {
			t.Fatal(s, strong, before, after)
		}
	}
}

func TestP1_10Narrower(t *testing.T) {
	r := chance()
	for range 300 {
		s := smallSlope(r)
		known := copied(s)
		b := someBed(r, known)
		x := []*slope.Range{&b.Friction, &b.Cohesion, &b.Water}[r.Intn(3)]
		x.Lo = anyIn(r, *x)
		x.Hi = anyIn(r, *x)
		for _, u := range surfacesOf(s) {
			wide, e := slope.Span(s, u)
			got, f := slope.Span(known, u)
			if e != f || got.Lo < wide.Lo || got.Hi > wide.Hi {
				t.Fatal(s, known, u, wide, got)
			}
		}
	}
}

func TestP1_11WhatMoves(t *testing.T) {
	r := chance()
	for range 600 {
		s := smallSlope(r)
		factor := r.Intn(3000)
		surely, perhaps, e := slope.Moves(s, factor)
		if e != api.OK || !slices.IsSorted(surely) || !slices.IsSorted(perhaps) {
			t.Fatal(s, factor, surely, perhaps, e)
		}
		for _, column := range surely {
			if !slices.Contains(perhaps, column) {
				t.Fatal("surely, and not perhaps:", s, factor, column)
			}
		}
		_, least, none := slope.Worst(s)
		if (len(perhaps) == 0) != (none == api.ErrNone || least >= factor) {
			t.Fatal("none may move:", s, factor, perhaps, least)
		}
		var below []int
		for _, u := range surfacesOf(s) {
			if span, e := slope.Span(s, u); e == api.OK && span.Lo < factor {
				for i := range u.Beds {
					below = append(below, u.From+i)
				}
			}
		}
		slices.Sort(below)
		if !slices.Equal(slices.Compact(below), perhaps) {
			t.Fatal("columns of no surface below:", s, factor, perhaps)
		}
	}
}

func TestP1_12GreaterFamily(t *testing.T) {
	r := chance()
	for range 600 {
		s := smallSlope(r)
		if s.Least == 1 {
			s.Least = 2
		}
		_, before, e := slope.Worst(s)
		less, ahead, behind := copied(s), copied(s), copied(s)
		less.Least--
		var column []slope.Bed
		for range s.Columns[0] {
			column = append(column, anyBed(r))
		}
		ahead.Columns = append([][]slope.Bed{column}, ahead.Columns...)
		behind.Columns = append(behind.Columns, column)
		for _, greater := range []slope.Slope{less, ahead, behind} {
			_, after, f := slope.Worst(greater)
			if e == api.OK && (f != api.OK || after > before) {
				t.Fatal(s, greater, before, after, f)
			}
		}
	}
}

// R4: arguments stay as they are, and results are new memory.
func TestArgumentsStay(t *testing.T) {
	s, u, truth := hill(), surface(0, 0, 1), []slope.Real{{Friction: 300, Cohesion: 50, Water: 200}, {Friction: 400, Cohesion: 20, Water: 600}}
	x, _ := slope.Proof(s, 700)
	before := copiedTable(x)
	slope.CheckSlope(s)
	slope.Factor(s, u, truth)
	slope.Span(s, u)
	slope.Worst(s)
	slope.ProveLeast(s, 700, x)
	slope.Margin(s, 700)
	slope.Moves(s, 1300)
	if !reflect.DeepEqual(s, hill()) || !reflect.DeepEqual(u, surface(0, 0, 1)) || truth[0] != (slope.Real{Friction: 300, Cohesion: 50, Water: 200}) || !reflect.DeepEqual(x, before) {
		t.Error("an argument was changed:", s, u, truth, x)
	}
}

func TestResultsShareNothing(t *testing.T) {
	x, _ := slope.Proof(hill(), 700)
	for n, row := range x {
		for k, numbers := range row {
			whole := copiedTable(x)
			for b := range numbers {
				numbers[b], whole[n][k][b] = -7, -7
			}
			_ = append(numbers, -8)
			if !reflect.DeepEqual(x, whole) {
				t.Fatal("numbers share memory:", x, whole)
			}
		}
	}
	surely, perhaps, _ := slope.Moves(hill(), 1934)
	surely[0] = 9
	_ = append(surely, 9)
	if !slices.Equal(perhaps, []int{0, 1, 2}) {
		t.Error("lists share memory:", perhaps)
	}
	u, _, _ := slope.Worst(hill())
	u.Beds[0] = 9
	if again, _, _ := slope.Worst(hill()); again.Beds[0] != 0 {
		t.Error("a surface is kept:", again)
	}
}

// P1: each call ends, and does not panic, also for slopes at all limits at once.
func TestLimitsAtOnce(t *testing.T) {
	s := level(12, 5, 4)
	for k, column := range s.Columns {
		for b := range column {
			column[b] = bed(100000-200000*((k+b)%2), 100000, to(2000, 2000), to(100000, 100000), to(0, 0))
		}
	}
	u, n, e := slope.Worst(s)
	span, f := slope.Span(s, u)
	if e != api.OK || f != api.OK || span.Lo != n {
		t.Error("Worst:", u, n, e, span, f)
	}
	x, e := slope.Proof(s, n)
	if e != api.OK || !slope.ProveLeast(s, n, x) {
		t.Error("Proof:", n, e)
	}
	if _, _, e := slope.Moves(s, 10000); e != api.OK {
		t.Error("Moves:", e)
	}
	if m, e := slope.Margin(s, n); m < 0 || e != api.OK {
		t.Error("Margin:", m, e)
	}
}
