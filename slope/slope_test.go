package slope_test

import (
	"math"
	"reflect"
	"slices"
	"testing"

	"sackung/api"
	"sackung/slope"
)

func TestP1_1ValidSlopes(t *testing.T) {
	widest := bed(100000, 100000, to(0, 2000), to(0, 100000), to(0, 100000))
	for name, change := range map[string]func(s *slope.Slope){
		"the hill":                 func(s *slope.Slope) {},
		"least 1":                  func(s *slope.Slope) { s.Least = 1 },
		"least above the columns":  func(s *slope.Slope) { s.Least = 4 },
		"one bed":                  func(s *slope.Slope) { *s = level(1, 1, 1) },
		"most columns and beds":    func(s *slope.Slope) { *s = level(12, 5, 4) },
		"widest bed":               func(s *slope.Slope) { s.Columns[0][0] = widest },
		"least drive":              func(s *slope.Slope) { s.Columns[0][1].Drive = -100000 },
		"greatest friction":        func(s *slope.Slope) { s.Columns[0][1].Friction = to(2000, 2000) },
		"greatest cohesion":        func(s *slope.Slope) { s.Columns[0][1].Cohesion = to(100000, 100000) },
		"greatest water":           func(s *slope.Slope) { s.Columns[0][1].Water = to(100000, 100000) },
		"more water than it bears": func(s *slope.Slope) { s.Columns[0][1].Normal = 0 },
	} {
		s := hill()
		change(&s)
		if e := slope.CheckSlope(s); e != api.OK {
			t.Error(name, e)
		}
	}
}

func invalidSlopes() map[string]func(s *slope.Slope) {
	return map[string]func(s *slope.Slope){
		"no slope":              func(s *slope.Slope) { *s = slope.Slope{} },
		"least 0":               func(s *slope.Slope) { s.Least = 0 },
		"least 5":               func(s *slope.Slope) { *s = level(12, 2, 5) },
		"least of wild":         func(s *slope.Slope) { s.Least = math.MinInt },
		"nil columns":           func(s *slope.Slope) { s.Columns = nil },
		"no columns":            func(s *slope.Slope) { s.Columns = [][]slope.Bed{} },
		"13 columns":            func(s *slope.Slope) { *s = level(13, 2, 2) },
		"6 beds":                func(s *slope.Slope) { *s = level(3, 6, 2) },
		"no beds":               func(s *slope.Slope) { *s = level(3, 0, 2) },
		"a bed less":            func(s *slope.Slope) { s.Columns[2] = s.Columns[2][:1] },
		"a bed more":            func(s *slope.Slope) { s.Columns[1] = append(s.Columns[1], slope.Bed{}) },
		"a bed less at first":   func(s *slope.Slope) { s.Columns[0] = s.Columns[0][:1] },
		"drive above":           func(s *slope.Slope) { s.Columns[0][0].Drive = 100001 },
		"drive below":           func(s *slope.Slope) { s.Columns[2][1].Drive = -100001 },
		"drive wild":            func(s *slope.Slope) { s.Columns[2][1].Drive = math.MinInt },
		"normal above":          func(s *slope.Slope) { s.Columns[0][1].Normal = 100001 },
		"normal below":          func(s *slope.Slope) { s.Columns[2][0].Normal = -1 },
		"friction below":        func(s *slope.Slope) { s.Columns[1][1].Friction = to(-1, 10) },
		"friction above":        func(s *slope.Slope) { s.Columns[0][0].Friction = to(0, 2001) },
		"friction both above":   func(s *slope.Slope) { s.Columns[0][0].Friction = to(2001, 2001) },
		"friction turned":       func(s *slope.Slope) { s.Columns[2][1].Friction = to(11, 10) },
		"cohesion below":        func(s *slope.Slope) { s.Columns[1][1].Cohesion = to(-1, 10) },
		"cohesion above":        func(s *slope.Slope) { s.Columns[0][0].Cohesion = to(0, 100001) },
		"cohesion turned":       func(s *slope.Slope) { s.Columns[2][1].Cohesion = to(11, 10) },
		"water below":           func(s *slope.Slope) { s.Columns[1][1].Water = to(-1, 10) },
		"water above":           func(s *slope.Slope) { s.Columns[0][0].Water = to(0, 100001) },
		"water turned":          func(s *slope.Slope) { s.Columns[2][1].Water = to(11, 10) },
		"water turned and wild": func(s *slope.Slope) { s.Columns[0][0].Water = to(math.MaxInt, math.MinInt) },
	}
}

func TestP1_1InvalidSlopes(t *testing.T) {
	for name, change := range invalidSlopes() {
		s := hill()
		change(&s)
		if e := slope.CheckSlope(s); e != api.ErrArg {
			t.Error("CheckSlope:", name, e)
		}
		if n, e := slope.Factor(s, surface(0, 0, 0), make([]slope.Real, 2)); n != 0 || e != api.ErrArg {
			t.Error("Factor:", name, n, e)
		}
		if r, e := slope.Span(s, surface(0, 0, 0)); r != to(0, 0) || e != api.ErrArg {
			t.Error("Span:", name, r, e)
		}
		if u, n, e := slope.Worst(s); u.From != 0 || len(u.Beds) != 0 || n != 0 || e != api.ErrArg {
			t.Error("Worst:", name, u, n, e)
		}
		if x, e := slope.Proof(s, 0); len(x) != 0 || e != api.ErrArg {
			t.Error("Proof:", name, x, e)
		}
		if n, e := slope.Margin(s, 0); n != 0 || e != api.ErrArg {
			t.Error("Margin:", name, n, e)
		}
		if a, b, e := slope.Moves(s, 10000); len(a) != 0 || len(b) != 0 || e != api.ErrArg {
			t.Error("Moves:", name, a, b, e)
		}
	}
}

func TestP1_1Factor(t *testing.T) {
	real := slope.Real{Friction: 350, Cohesion: 50, Water: 150}
	several := slope.Slope{Least: 1, Columns: [][]slope.Bed{
		{bed(1, 3, to(500, 500), to(0, 0), to(0, 0))},
		{bed(1, 3, to(500, 500), to(0, 0), to(0, 5))},
		{bed(5, 7, to(1000, 1000), to(0, 0), to(0, 0))},
		{bed(-7, 7, to(1000, 1000), to(1, 1), to(0, 9))},
		{bed(1, 100000, to(2000, 2000), to(100000, 100000), to(0, 0))},
	}}
	wet := slope.Slope{Least: 1, Columns: [][]slope.Bed{{bed(100, 50, to(2000, 2000), to(30, 30), to(80, 80))}}}
	half := slope.Real{Friction: 500}
	whole := slope.Real{Friction: 1000}
	for _, x := range []struct {
		name  string
		s     slope.Slope
		u     slope.Surface
		truth []slope.Real
		want  int
	}{
		{"the example", hill(), surface(0, 0, 0), []slope.Real{real, real}, 941},
		{"each truth for its column", hill(), surface(0, 0, 1), []slope.Real{{Friction: 400, Cohesion: 55, Water: 100}, {Friction: 450, Cohesion: 20, Water: 600}}, 1000 * (320 + 55 + 450 + 20) / 900},
		{"what drives up", hill(), surface(1, 0, 0), []slope.Real{real, {Friction: 300, Cohesion: 50}}, 1000 * (297 + 50 + 360 + 50) / 200},
		{"each column is rounded down", several, surface(0, 0, 0), []slope.Real{half, half}, 1000},
		{"no less than nothing by friction", several, surface(0, 0, 0), []slope.Real{half, {Friction: 500, Water: 5}}, 500},
		{"nor less by any friction", wet, surface(0, 0), []slope.Real{{Friction: 2000, Cohesion: 30, Water: 80}}, 300},
		{"the quotient is rounded down", several, surface(1, 0, 0), []slope.Real{half, whole}, 1333},
		{"drives by 1, all of it", several, surface(0, 0, 0, 0, 0, 0), []slope.Real{half, half, whole, {Friction: 1000, Cohesion: 1, Water: 8}, {Friction: 2000, Cohesion: 100000}}, 10000},
		{"greatest", several, surface(4, 0), []slope.Real{{Friction: 2000, Cohesion: 100000}}, 10000},
	} {
		if n, e := slope.Factor(x.s, x.u, x.truth); n != x.want || e != api.OK {
			t.Error(x.name, n, e)
		}
	}
}

func TestP1_1FactorIsAtMostTenThousand(t *testing.T) {
	for holds, want := range map[int]int{99: 9900, 100: 10000, 101: 10000} {
		s := slope.Slope{Least: 1, Columns: [][]slope.Bed{{plain(10, holds)}}}
		if n, e := slope.Factor(s, surface(0, 0), []slope.Real{{Cohesion: holds}}); n != want || e != api.OK {
			t.Error(holds, n, e)
		}
	}
}

func wrongSurfaces() []slope.Surface {
	return []slope.Surface{
		{}, surface(0), {From: 0, Beds: []int{}}, surface(0, 0), surface(2, 0), surface(2, 0, 0), surface(1, 0, 0, 0), surface(3, 0, 0), surface(3),
		surface(-1, 0, 0), surface(0, 0, 2), surface(0, 2, 0), surface(0, 1, 2), surface(0, 2, 1), surface(0, 2, 2), surface(0, 1, 1, 2), surface(0, 0, -1), surface(0, -1, 0), surface(0, 0, 0, 0, 0),
		surface(math.MaxInt, 0, 0), surface(math.MinInt, 0, 0), surface(0, math.MaxInt, math.MinInt), surface(0, math.MinInt, math.MaxInt), surface(1, 0, math.MinInt),
	}
}

func TestP1_1FactorErrors(t *testing.T) {
	real := slope.Real{Friction: 350, Cohesion: 50, Water: 150}
	for _, u := range wrongSurfaces() {
		if n, e := slope.Factor(hill(), u, nil); n != 0 || e != api.ErrRange {
			t.Error("no surface:", u, n, e)
		}
	}
	for _, truth := range [][]slope.Real{
		nil, {}, {real}, {real, real, real}, make([]slope.Real, 100000),
		{real, {Friction: 299, Cohesion: 50}}, {real, {Friction: 401, Cohesion: 50}},
		{real, {Friction: 300, Cohesion: 49}}, {real, {Friction: 300, Cohesion: 61}},
		{real, {Friction: 300, Cohesion: 50, Water: -1}}, {real, {Friction: 300, Cohesion: 50, Water: 201}},
		{{Friction: 350, Cohesion: 50, Water: 99}, real}, {{Friction: math.MaxInt, Cohesion: 50, Water: 150}, real}, {real, {}},
	} {
		if n, e := slope.Factor(hill(), surface(0, 0, 0), truth); n != 0 || e != api.ErrFail {
			t.Error("no truth:", truth, n, e)
		}
	}
	still := level(2, 1, 1)
	still.Columns[0][0].Drive = 5
	still.Columns[1][0].Drive = -5
	if n, e := slope.Factor(still, surface(0, 0, 0), make([]slope.Real, 1)); n != 0 || e != api.ErrFail {
		t.Error("no truth of what does not drive:", n, e)
	}
	for _, u := range []slope.Surface{surface(0, 0, 0), surface(1, 0)} {
		if n, e := slope.Factor(still, u, make([]slope.Real, len(u.Beds))); n != 0 || e != api.ErrNone {
			t.Error("what does not drive:", u, n, e)
		}
	}
}

func TestP1_2Span(t *testing.T) {
	for _, x := range []struct {
		u    slope.Surface
		want slope.Range
	}{
		{surface(0, 0, 0), to(785, 1200)}, {surface(0, 0, 1), to(755, 1244)}, {surface(0, 1, 1, 1), to(1183, 1933)},
		{surface(0, 1, 0), to(788, 1222)}, {surface(0, 1, 1), to(763, 1254)}, {surface(1, 1, 0), to(2000, 3200)},
	} {
		if r, e := slope.Span(hill(), x.u); r != x.want || e != api.OK {
			t.Error(x, r, e)
		}
	}
	r := chance()
	for range 300 {
		s := smallSlope(r)
		for _, u := range surfacesOf(s) {
			want, drives := expected(s, u)
			got, e := slope.Span(s, u)
			if got != want || drives != (e == api.OK) || !drives && e != api.ErrNone {
				t.Fatal(s, u, got, e)
			}
		}
	}
}

func TestP1_2SpanErrors(t *testing.T) {
	for _, u := range wrongSurfaces() {
		if r, e := slope.Span(hill(), u); r != to(0, 0) || e != api.ErrRange {
			t.Error("no surface:", u, r, e)
		}
		if r, e := slope.Span(broken(), u); r != to(0, 0) || e != api.ErrArg {
			t.Error("no surface of no slope:", u, r, e)
		}
	}
	five := level(3, 5, 3)
	for _, u := range []slope.Surface{surface(0, 0, 2, 1), surface(0, 4, 2, 1), surface(0, 0, 1, 3), surface(0, 4, 3, 1), surface(0, 0, 0, 5), surface(0, 4, 4, 5)} {
		if _, e := slope.Span(five, u); e != api.ErrRange {
			t.Error("beds too far from each other, or not there:", u, e)
		}
	}
	for _, u := range []slope.Surface{surface(0, 0, 1, 2), surface(0, 4, 3, 4), surface(0, 2, 2, 2)} {
		if r, e := slope.Span(five, u); r != to(0, 0) || e != api.ErrNone {
			t.Error("what does not drive:", u, r, e)
		}
	}
	deep := level(2, 1, 4)
	if _, e := slope.Span(deep, surface(0, 0, 0)); e != api.ErrRange {
		t.Error("fewer columns than Least:", e)
	}
}

func TestP1_3Worst(t *testing.T) {
	long := hill()
	long.Least = 3
	rock := slope.Slope{Least: 1, Columns: [][]slope.Bed{{plain(-3, 0)}, {plain(1, 100)}, {plain(-5, 0)}}}
	hard := slope.Slope{Least: 1, Columns: [][]slope.Bed{{plain(1, 100)}, {plain(1000, 9999)}}}
	loose := slope.Slope{Least: 1, Columns: [][]slope.Bed{{plain(1, 0), plain(0, 0)}}}
	for _, x := range []struct {
		s    slope.Slope
		u    slope.Surface
		want int
	}{
		{hill(), surface(0, 0, 1), 755}, {long, surface(0, 1, 1, 1), 1183}, {rock, surface(1, 0), 10000}, {hard, surface(1, 0), 9999}, {loose, surface(0, 0), 0},
	} {
		if u, n, e := slope.Worst(x.s); !reflect.DeepEqual(u, x.u) || n != x.want || e != api.OK {
			t.Error(x, u, n, e)
		}
	}
	long.Least = 4
	up := level(4, 2, 2)
	up.Columns[1][1].Drive, up.Columns[2][1].Drive = 1, -1
	up.Columns[0][0].Drive, up.Columns[2][0].Drive, up.Columns[3][0].Drive = -9, -2, -9
	up.Columns[0][1].Drive, up.Columns[1][0].Drive, up.Columns[3][1].Drive = -1, -1, -1
	for _, s := range []slope.Slope{long, level(1, 1, 1), level(12, 5, 4), up} {
		if u, n, e := slope.Worst(s); u.From != 0 || len(u.Beds) != 0 || n != 0 || e != api.ErrNone {
			t.Error("nothing drives:", s, u, n, e)
		}
	}
}

func checkWorst(t *testing.T, s slope.Slope) {
	want := leastOf(s)
	u, n, e := slope.Worst(s)
	if want == 10001 {
		if u.From != 0 || len(u.Beds) != 0 || n != 0 || e != api.ErrNone {
			t.Fatal("nothing drives:", s, u, n, e)
		}
		return
	}
	span, f := slope.Span(s, u)
	if e != api.OK || n != want || f != api.OK || span.Lo != n {
		t.Fatal(s, u, n, e, want, span)
	}
}

func TestP1_3WorstOfAny(t *testing.T) {
	r := chance()
	for range 1500 {
		checkWorst(t, smallSlope(r))
	}
	for range 3 {
		checkWorst(t, anySlope(r, 9, 5))
	}
	full := anySlope(r, 12, 5)
	for least := 1; least <= 4; least++ {
		full.Least = least
		checkWorst(t, full)
	}
}

func TestP1_4Proof(t *testing.T) {
	for factor, want := range map[int]api.Errno{0: api.OK, 754: api.OK, 755: api.OK, 756: api.ErrLow, 10000: api.ErrLow, -1: api.ErrRange, 10001: api.ErrRange, math.MinInt: api.ErrRange, math.MaxInt: api.ErrRange} {
		x, e := slope.Proof(hill(), factor)
		if e != want || want != api.OK && len(x) != 0 || want == api.OK && !proves(hill(), factor, x) {
			t.Error(factor, x, e)
		}
		if slope.ProveLeast(hill(), factor, x) != (want == api.OK) {
			t.Error("ProveLeast:", factor, x)
		}
		if _, e := slope.Proof(broken(), factor); e != api.ErrArg {
			t.Error("of no slope:", factor, e)
		}
	}
}

func TestP1_4ProofOfAny(t *testing.T) {
	r := chance()
	for range 600 {
		s := smallSlope(r)
		n := leastOf(s)
		for _, factor := range []int{0, n - 1, n, n + 1, r.Intn(10001), 10000} {
			if factor < 0 || factor > 10000 {
				continue
			}
			x, e := slope.Proof(s, factor)
			if factor > n && (e != api.ErrLow || len(x) != 0) {
				t.Fatal("too great:", s, factor, x, e)
			}
			if factor <= n && (e != api.OK || !sized(s, x) || !proves(s, factor, x) || !slope.ProveLeast(s, factor, x)) {
				t.Fatal("no proof:", s, factor, x, e)
			}
		}
	}
}

func sized(s slope.Slope, x slope.Table) bool {
	if len(x) != s.Least {
		return false
	}
	for _, row := range x {
		if len(row) != len(s.Columns) {
			return false
		}
		for _, numbers := range row {
			if len(numbers) != len(s.Columns[0]) {
				return false
			}
		}
	}
	return true
}

// pair has two columns that hold 100 and drive 40, and 60: for the factor 2000 they cost 20000, and -20000.
func pair() slope.Slope {
	return slope.Slope{Least: 2, Columns: [][]slope.Bed{{plain(40, 100)}, {plain(60, 100)}}}
}

func TestP1_4ProveLeast(t *testing.T) {
	most := api.MaxSum
	for _, x := range []struct {
		name string
		t    slope.Table
		want bool
	}{
		{"the greatest numbers", slope.Table{{{20000}, {-20000}}, {{most}, {0}}}, true},
		{"the least numbers", slope.Table{{{20000}, {-most}}, {{-20000 + 40000}, {0}}}, true},
		{"a first column that a whole surface cannot end in", slope.Table{{{20000}, {-20000}}, {{20000}, {0}}}, true},
		{"and that is too low", slope.Table{{{20000}, {-20000}}, {{19999}, {0}}}, false},
		{"one column costs less", slope.Table{{{20001}, {-20000}}, {{most}, {0}}}, false},
		{"the other costs less", slope.Table{{{20000}, {-19999}}, {{most}, {0}}}, false},
		{"two cost less than what is asked", slope.Table{{{19999}, {-20000}}, {{most}, {0}}}, false},
		{"two cost less than told", slope.Table{{{20000}, {-20000}}, {{most}, {1}}}, false},
		{"below 0", slope.Table{{{20000}, {-20000}}, {{most}, {-1}}}, false},
		{"below the least number", slope.Table{{{20000}, {-most - 1}}, {{most}, {0}}}, false},
		{"above the greatest number", slope.Table{{{20000}, {-20000}}, {{most + 1}, {0}}}, false},
		{"wild numbers", slope.Table{{{math.MinInt}, {math.MinInt}}, {{math.MaxInt}, {math.MaxInt}}}, false},
		{"nothing", nil, false},
		{"no rows", slope.Table{}, false},
		{"a row less", slope.Table{{{20000}, {-20000}}}, false},
		{"a row more", slope.Table{{{20000}, {-20000}}, {{most}, {0}}, {{most}, {0}}}, false},
		{"a column less", slope.Table{{{20000}, {-20000}}, {{most}}}, false},
		{"a column more", slope.Table{{{20000}, {-20000}, {0}}, {{most}, {0}}}, false},
		{"a bed less", slope.Table{{{20000}, {-20000}}, {{}, {0}}}, false},
		{"a bed more", slope.Table{{{20000}, {-20000}}, {{most}, {0, 0}}}, false},
		{"nil columns", slope.Table{{{20000}, {-20000}}, nil}, false},
		{"nil beds", slope.Table{{nil, {-20000}}, {{most}, {0}}}, false},
	} {
		if slope.ProveLeast(pair(), 2000, x.t) != x.want {
			t.Error(x.name)
		}
	}
	low := slope.Table{{{0}, {0}}, {{0}, {0}}}
	for factor, want := range map[int]bool{0: true, 1600: true, -1: false, 10001: false, math.MinInt: false} {
		if slope.ProveLeast(pair(), factor, low) != want {
			t.Error("factor", factor)
		}
	}
	for name, change := range invalidSlopes() {
		s := hill()
		change(&s)
		if slope.ProveLeast(s, 0, slope.Table{{{0, 0}, {0, 0}, {0, 0}}, {{0, 0}, {0, 0}, {0, 0}}}) || slope.ProveLeast(s, 0, nil) {
			t.Error("no slope:", name)
		}
	}
}

func TestP1_4ProveLeastOfOneColumn(t *testing.T) {
	// Each column is a surface; for the factor 1000 they cost 5000, -1000 and 3000.
	s := slope.Slope{Least: 1, Columns: [][]slope.Bed{{plain(-5, 0)}, {plain(1, 0)}, {plain(-3, 0)}}}
	for _, x := range []struct {
		factor int
		t      slope.Table
		want   bool
	}{
		{0, slope.Table{{{0}, {0}, {0}}}, true},
		{1000, slope.Table{{{0}, {0}, {0}}}, false},
		{1000, slope.Table{{{0}, {-1000}, {0}}}, false},
		{0, slope.Table{{{0}, {0}, {1}}}, false},
		{0, slope.Table{{{-1}, {0}, {0}}}, false},
	} {
		if slope.ProveLeast(s, x.factor, x.t) != x.want {
			t.Error(x)
		}
	}
	// What a surface that goes on costs is asked of the last row, too.
	s.Columns[1][0] = plain(1, 1)
	for number, want := range map[int]bool{3000: true, 3001: false} {
		if slope.ProveLeast(s, 1000, slope.Table{{{5000}, {0}, {number}}}) != want {
			t.Error("goes on:", number)
		}
	}
}

// The conditions are asked anew of tables that differ from a proof by a little.
func TestP1_4ProveLeastOfAny(t *testing.T) {
	r := chance()
	for range 400 {
		s := smallSlope(r)
		factor := min(leastOf(s), 10000)
		x, e := slope.Proof(s, factor)
		if e != api.OK {
			t.Fatal(s, factor, e)
		}
		for range 20 {
			y := copiedTable(x)
			row := y[r.Intn(len(y))]
			numbers := row[r.Intn(len(row))]
			numbers[r.Intn(len(numbers))] += []int{1, -1, 1000, -1000, -50000, -api.MaxSum}[r.Intn(6)]
			if slope.ProveLeast(s, factor, y) != proves(s, factor, y) {
				t.Fatal(s, factor, y)
			}
		}
	}
}

func TestP1_5Margin(t *testing.T) {
	for factor, want := range map[int]int{700: 70, 0: 100000} {
		if n, e := slope.Margin(hill(), factor); n != want || e != api.OK {
			t.Error(factor, n, e)
		}
	}
	for factor, want := range map[int]api.Errno{756: api.ErrLow, 10000: api.ErrLow, -1: api.ErrRange, 10001: api.ErrRange, math.MaxInt: api.ErrRange} {
		if n, e := slope.Margin(hill(), factor); n != 0 || e != want {
			t.Error(factor, n, e)
		}
		if n, e := slope.Margin(broken(), factor); n != 0 || e != api.ErrArg {
			t.Error("of no slope:", factor, n, e)
		}
	}
	if n, e := slope.Margin(level(3, 2, 1), 10000); n != 100000 || e != api.OK {
		t.Error("of what does not drive:", n, e)
	}
	// It holds 100000, and the water that leaves 1 of it.
	firm := slope.Slope{Least: 1, Columns: [][]slope.Bed{{bed(1, 100000, to(1000, 1000), to(0, 0), to(0, 0))}}}
	for factor, want := range map[int]int{0: 100000, 1: 99999, 1000: 99999, 1001: 99998, 10000: 99990} {
		if n, e := slope.Margin(firm, factor); n != want || e != api.OK {
			t.Error("up to the greatest force:", factor, n, e)
		}
	}
}

func TestP1_5MarginOfAny(t *testing.T) {
	r := chance()
	for range 400 {
		s := smallSlope(r)
		factor := r.Intn(1500)
		want := -1
		for want < 200 && leastOf(wetter(s, want+1)) >= factor {
			want++
		}
		if want == 200 { // No bed has a Normal that more water could be taken off.
			want = 100000
		}
		n, e := slope.Margin(s, factor)
		if want == -1 && (n != 0 || e != api.ErrLow) || want >= 0 && (n != want || e != api.OK) {
			t.Fatal(s, factor, n, e, want)
		}
	}
}

func TestP1_6Moves(t *testing.T) {
	for _, x := range []struct {
		factor          int
		surely, perhaps []int
	}{
		{1000, nil, []int{0, 1}}, {1300, []int{0, 1}, []int{0, 1, 2}}, {700, nil, nil}, {0, nil, nil},
		{755, nil, nil}, {756, nil, []int{0, 1}}, {1183, nil, []int{0, 1}}, {1184, nil, []int{0, 1, 2}},
		{1200, nil, []int{0, 1, 2}}, {1201, []int{0, 1}, []int{0, 1, 2}}, {1920, []int{0, 1}, []int{0, 1, 2}}, {1921, []int{0, 1, 2}, []int{0, 1, 2}},
	} {
		if a, b, e := slope.Moves(hill(), x.factor); !slices.Equal(a, x.surely) || !slices.Equal(b, x.perhaps) || e != api.OK {
			t.Error(x, a, b, e)
		}
	}
	for _, factor := range []int{-1, 10001, math.MinInt, math.MaxInt} {
		if a, b, e := slope.Moves(hill(), factor); len(a) != 0 || len(b) != 0 || e != api.ErrRange {
			t.Error(factor, a, b, e)
		}
		if _, _, e := slope.Moves(broken(), factor); e != api.ErrArg {
			t.Error("of no slope:", factor, e)
		}
	}
	if a, b, e := slope.Moves(level(5, 2, 1), 10000); len(a) != 0 || len(b) != 0 || e != api.OK {
		t.Error("of what does not drive:", a, b, e)
	}
	// The greatest factor is no sign that more is not there.
	rock := slope.Slope{Least: 1, Columns: [][]slope.Bed{{plain(1, 100)}}}
	if a, b, e := slope.Moves(rock, 10000); len(a) != 0 || len(b) != 0 || e != api.OK {
		t.Error("of rock:", a, b, e)
	}
}

func TestP1_6MovesOfAny(t *testing.T) {
	r := chance()
	for i := range 1500 {
		s := smallSlope(r)
		if i%100 == 0 {
			s = anySlope(r, 8, 3)
		}
		for _, factor := range []int{r.Intn(300), r.Intn(2000), r.Intn(10001), min(leastOf(s)+1, 10000)} {
			surely, perhaps := columnsBelow(s, factor)
			if a, b, e := slope.Moves(s, factor); !slices.Equal(a, surely) || !slices.Equal(b, perhaps) || e != api.OK {
				t.Fatal(s, factor, a, b, e, surely, perhaps)
			}
		}
	}
}
