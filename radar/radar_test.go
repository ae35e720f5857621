package radar_test

import (
	"math"
	"slices"
	"testing"

	"sackung/api"
	"sackung/radar"
)

func TestP3_1ValidSurveys(t *testing.T) {
	for name, change := range map[string]func(s *radar.Survey){
		"the ridge":        func(s *radar.Survey) {},
		"one spot":         func(s *radar.Survey) { *s = radar.Survey{Spots: make([]radar.Spot, 1)} },
		"most spots":       func(s *radar.Survey) { *s = bare(6) },
		"no tools":         func(s *radar.Survey) { s.Tools, s.Reads = nil, nil },
		"empty tools":      func(s *radar.Survey) { s.Tools, s.Reads = []radar.Tool{}, []int{} },
		"most tools":       func(s *radar.Survey) { s.Tools, s.Reads = slices.Repeat(s.Tools, 4), make([]int, 8) },
		"no strain":        func(s *radar.Survey) { s.Strain = 0 },
		"most strain":      func(s *radar.Survey) { s.Strain = 60 },
		"the first day":    func(s *radar.Survey) { s.Day = 0 },
		"the last day":     func(s *radar.Survey) { s.Day = 60 },
		"least reads":      func(s *radar.Survey) { s.Reads = []int{-1000, -1000} },
		"greatest reads":   func(s *radar.Survey) { s.Reads = []int{1000, 1000} },
		"far down":         func(s *radar.Survey) { s.Spots[1].X = to(-30, -18) },
		"far up":           func(s *radar.Survey) { s.Spots[1].Y = to(18, 30) },
		"known":            func(s *radar.Survey) { s.Spots[0].X, s.Spots[0].Y = just(30), just(-30) },
		"least sight":      func(s *radar.Survey) { s.Tools[0].A, s.Tools[0].B = -3, -3 },
		"greatest sight":   func(s *radar.Survey) { s.Tools[0].A, s.Tools[0].B = 3, 3 },
		"X alone":          func(s *radar.Survey) { s.Tools[1].B = 0 },
		"Y alone":          func(s *radar.Survey) { s.Tools[1].A = 0 },
		"the last spot":    func(s *radar.Survey) { s.Tools[0].Spot = 1 },
		"least turn":       func(s *radar.Survey) { s.Tools[1].Turn = 2 },
		"greatest turn":    func(s *radar.Survey) { s.Tools[1].Turn = 200 },
		"most off":         func(s *radar.Survey) { s.Tools[1].Err, s.Tools[1].Drift = 50, 3 },
		"since the survey": func(s *radar.Survey) { s.Tools[1].Since = 10 },
	} {
		s := ridge()
		change(&s)
		if e := radar.CheckSurvey(s); e != api.OK {
			t.Error(name, e)
		}
	}
}

// invalidTools are not valid for the ridge, neither as tools nor as stakes.
func invalidTools() map[string]func(x *radar.Tool) {
	return map[string]func(x *radar.Tool){
		"no such spot":        func(x *radar.Tool) { x.Spot = 2 },
		"no spot":             func(x *radar.Tool) { x.Spot = -1 },
		"a wild spot":         func(x *radar.Tool) { x.Spot = math.MaxInt },
		"no sight":            func(x *radar.Tool) { x.A, x.B = 0, 0 },
		"A below":             func(x *radar.Tool) { x.A = -4 },
		"A above":             func(x *radar.Tool) { x.A = 4 },
		"B below":             func(x *radar.Tool) { x.B = -4 },
		"B above":             func(x *radar.Tool) { x.B = 4 },
		"A and B, both wild":  func(x *radar.Tool) { x.A, x.B = math.MinInt, math.MaxInt },
		"a turn of 1":         func(x *radar.Tool) { x.Turn = 1 },
		"a turn below":        func(x *radar.Tool) { x.Turn = -1 },
		"a turn that is less": func(x *radar.Tool) { x.Turn = -2 },
		"a turn above":        func(x *radar.Tool) { x.Turn = 201 },
		"a wild turn":         func(x *radar.Tool) { x.Turn = math.MinInt },
		"Err below":           func(x *radar.Tool) { x.Err = -1 },
		"Err above":           func(x *radar.Tool) { x.Err = 51 },
		"Err wild":            func(x *radar.Tool) { x.Err = math.MaxInt },
		"Drift below":         func(x *radar.Tool) { x.Drift = -1 },
		"Drift above":         func(x *radar.Tool) { x.Drift = 4 },
		"Drift wild":          func(x *radar.Tool) { x.Drift = math.MaxInt },
		"Since below":         func(x *radar.Tool) { x.Since = -1 },
		"Since later":         func(x *radar.Tool) { x.Since = 11 },
		"Since wild":          func(x *radar.Tool) { x.Since = math.MinInt },
	}
}

func invalidSurveys() map[string]func(s *radar.Survey) {
	l := map[string]func(s *radar.Survey){
		"no survey":      func(s *radar.Survey) { *s = radar.Survey{} },
		"nil spots":      func(s *radar.Survey) { s.Spots, s.Tools, s.Reads = nil, nil, nil },
		"no spots":       func(s *radar.Survey) { s.Spots, s.Tools, s.Reads = []radar.Spot{}, nil, nil },
		"strain below":   func(s *radar.Survey) { s.Strain = -1 },
		"strain above":   func(s *radar.Survey) { s.Strain = 61 },
		"strain wild":    func(s *radar.Survey) { s.Strain = math.MinInt },
		"day below":      func(s *radar.Survey) { s.Day = -1 },
		"day above":      func(s *radar.Survey) { s.Day = 61 },
		"day wild":       func(s *radar.Survey) { s.Day = math.MaxInt },
		"a read less":    func(s *radar.Survey) { s.Reads = s.Reads[:1] },
		"a read more":    func(s *radar.Survey) { s.Reads = append(s.Reads, 0) },
		"no reads":       func(s *radar.Survey) { s.Reads = nil },
		"reads alone":    func(s *radar.Survey) { s.Tools = nil },
		"many reads":     func(s *radar.Survey) { s.Reads = make([]int, 100000) },
		"a read below":   func(s *radar.Survey) { s.Reads[1] = -1001 },
		"a read above":   func(s *radar.Survey) { s.Reads[0] = 1001 },
		"a wild read":    func(s *radar.Survey) { s.Reads[1] = math.MinInt },
		"X turned":       func(s *radar.Survey) { s.Spots[1].X = to(1, 0) },
		"Y turned":       func(s *radar.Survey) { s.Spots[0].Y = to(1, 0) },
		"X too wide":     func(s *radar.Survey) { s.Spots[0].X = to(-6, 7) },
		"Y too wide":     func(s *radar.Survey) { s.Spots[1].Y = to(17, 30) },
		"X below":        func(s *radar.Survey) { s.Spots[1].X = to(-31, -25) },
		"X above":        func(s *radar.Survey) { s.Spots[1].X = to(25, 31) },
		"Y below":        func(s *radar.Survey) { s.Spots[0].Y = just(-31) },
		"Y above":        func(s *radar.Survey) { s.Spots[0].Y = just(31) },
		"X wild":         func(s *radar.Survey) { s.Spots[0].X = to(math.MinInt, math.MaxInt) },
		"X wild up":      func(s *radar.Survey) { s.Spots[0].X = just(math.MaxInt) },
		"Y wild, turned": func(s *radar.Survey) { s.Spots[0].Y = to(math.MaxInt, math.MinInt) },
	}
	for name, change := range invalidTools() {
		l["the first tool: "+name] = func(s *radar.Survey) { change(&s.Tools[0]) }
		l["the last tool: "+name] = func(s *radar.Survey) { change(&s.Tools[1]) }
	}
	return l
}

// refused asks all calls for an error, with stakes that are not valid, either, as the error comes before theirs.
func refused(t *testing.T, name string, s radar.Survey, want api.Errno) {
	t.Helper()
	if e := radar.CheckSurvey(s); e != want {
		t.Error("CheckSurvey:", name, e)
	}
	if l, e := radar.Learn(s); len(l) != 0 || e != want {
		t.Error("Learn:", name, l, e)
	}
	if l, e := radar.Turns(s); len(l) != 0 || e != want {
		t.Error("Turns:", name, l, e)
	}
	if l, e := radar.Blame(s); len(l) != 0 || e != want {
		t.Error("Blame:", name, l, e)
	}
	for _, stakes := range [][]radar.Tool{nil, {{}}, {{A: 1}}, make([]radar.Tool, 9)} {
		if best, worst, e := radar.Best(s, stakes); best != 0 || worst != 0 || e != want {
			t.Error("Best:", name, best, worst, e)
		}
	}
	if radar.ProveField(s, make([]radar.Move, len(s.Spots))) {
		t.Error("ProveField:", name)
	}
}

func TestP3_1InvalidSurveys(t *testing.T) {
	for name, change := range invalidSurveys() {
		s := ridge()
		change(&s)
		refused(t, name, s, api.ErrArg)
		many := copied(s)
		many.Spots = append(many.Spots, make([]radar.Spot, 7)...)
		refused(t, name+", and too many spots", many, api.ErrLimit)
		s.Tools = append(s.Tools, make([]radar.Tool, 9)...)
		refused(t, name+", and too many tools", s, api.ErrLimit)
	}
	refused(t, "7 spots", bare(7), api.ErrLimit)
	nine := bare(1)
	for range 9 {
		nine = with(nine, radar.Tool{A: 1}, 0)
	}
	refused(t, "9 tools", nine, api.ErrLimit)
}

func TestP3_1LearnOfTheExample(t *testing.T) {
	want := []radar.Spot{{X: just(5), Y: to(3, 6)}, {X: to(4, 6), Y: to(4, 6)}}
	if l, e := radar.Learn(ridge()); !slices.Equal(l, want) || e != api.OK {
		t.Error(l, e)
	}
}

// Each of these has one spot that moves by 0 to 10 along X, and a tool that sees it at the day 10.
func TestP3_1LearnOfOneTool(t *testing.T) {
	for _, x := range []struct {
		tool radar.Tool
		read int
		want radar.Range
	}{
		{radar.Tool{A: 1}, 0, just(0)},
		{radar.Tool{A: 1}, 10, just(10)},
		{radar.Tool{A: -1}, -7, just(7)},
		{radar.Tool{A: 2}, 6, just(3)},
		{radar.Tool{A: 2, Err: 1}, 7, to(3, 4)},
		{radar.Tool{A: 3, B: 3, Err: 2}, 8, to(2, 3)},
		{radar.Tool{B: 1, Err: 5}, 5, to(0, 10)},
		{radar.Tool{A: 1, Err: 2}, 5, to(3, 7)},
		{radar.Tool{A: 1, Err: 1, Drift: 1, Since: 8}, 5, to(2, 8)},
		{radar.Tool{A: 1, Drift: 3, Since: 9}, 5, to(2, 8)},
		{radar.Tool{A: 1, Drift: 3, Since: 10}, 5, just(5)},
		{radar.Tool{A: 1, Drift: 1, Since: 0}, -9, to(0, 1)},
		{radar.Tool{A: 1, Err: 50}, 60, just(10)},
		{radar.Tool{A: 1, Turn: 7}, -993, to(1, 8)},
		{radar.Tool{A: 1, Turn: 7}, -991, to(3, 10)},
		{radar.Tool{A: 1, Turn: 7}, 1000, just(6)},
		{radar.Tool{A: 1, Turn: 7}, 5, just(5)},
		{radar.Tool{A: 1, Turn: 7}, 2, to(2, 9)},
		{radar.Tool{A: 1, Turn: 7, Err: 1}, 0, to(0, 8)},
		{radar.Tool{A: 1, Turn: 200}, 204, just(4)},
		{radar.Tool{A: 1, Turn: 200}, -196, just(4)},
		{radar.Tool{A: 1, Turn: 2}, 1000, to(0, 10)},
		{radar.Tool{A: 1, Turn: 2}, -999, to(1, 9)},
	} {
		if l, e := radar.Learn(with(bare(1), x.tool, x.read)); !slices.Equal(l, []radar.Spot{{X: x.want}}) || e != api.OK {
			t.Error(x, l, e)
		}
	}
	for _, x := range []struct {
		tool radar.Tool
		read int
	}{
		{radar.Tool{A: 1}, 11}, {radar.Tool{A: 1}, -1}, {radar.Tool{A: -1}, 1}, {radar.Tool{A: 2}, 7}, {radar.Tool{B: 1}, 1},
		{radar.Tool{A: 1, Err: 50}, 61}, {radar.Tool{A: 1, Err: 1, Drift: 1, Since: 8}, 14}, {radar.Tool{A: 1, Drift: 3, Since: 10}, 11},
		{radar.Tool{A: 1, Turn: 50}, 20}, {radar.Tool{A: 2, Turn: 4}, 1}, {radar.Tool{A: 1, Turn: 200, Err: 2}, 187},
	} {
		s := with(bare(1), x.tool, x.read)
		if l, e := radar.Learn(s); len(l) != 0 || e != api.ErrFail {
			t.Error(x, l, e)
		}
		if l, e := radar.Turns(s); len(l) != 0 || e != api.ErrFail {
			t.Error("Turns:", x, l, e)
		}
	}
}

// What is known at one end of a row goes on to the other one.
func TestP3_1LearnOfARow(t *testing.T) {
	row := with(strained(bare(6), 1), radar.Tool{A: 1}, 9)
	want := []radar.Range{just(9), to(8, 10), to(7, 10), to(6, 10), to(5, 10), to(4, 10)}
	for _, back := range []bool{false, true} {
		if back {
			row.Tools[0].Spot = 5
			slices.Reverse(want)
		}
		l, e := radar.Learn(row)
		for i, x := range want {
			if e != api.OK || l[i] != (radar.Spot{X: x}) {
				t.Fatal(i, l, e)
			}
		}
	}
	// Along Y the same.
	s := radar.Survey{Spots: slices.Repeat([]radar.Spot{{Y: to(-3, 3)}}, 3), Strain: 2, Tools: []radar.Tool{{Spot: 1, B: 2}}, Reads: []int{-6}}
	if l, e := radar.Learn(s); !slices.Equal(l, []radar.Spot{{Y: to(-3, -1)}, {Y: just(-3)}, {Y: to(-3, -1)}}) || e != api.OK {
		t.Error(l, e)
	}
	// No Strain at all: the spots move as one.
	s = with(with(bare(3), radar.Tool{A: 1, Turn: 3}, 1), radar.Tool{Spot: 2, A: 1, Turn: 5}, 2)
	if l, e := radar.Learn(s); !slices.Equal(l, slices.Repeat([]radar.Spot{{X: just(7)}}, 3)) || e != api.OK {
		t.Error(l, e)
	}
	// Nothing but Strain stands against a field.
	s = bare(2)
	s.Spots[1].X = to(13, 20)
	for strain, want := range map[int]api.Errno{2: api.ErrFail, 3: api.OK} {
		if _, e := radar.Learn(strained(s, strain)); e != want {
			t.Error(strain, e)
		}
	}
	// X and Y are bound together: what X allows, Y does not.
	s = with(ridge(), radar.Tool{Spot: 0, A: 1, B: -1}, -1)
	if l, e := radar.Learn(s); !slices.Equal(l, []radar.Spot{{X: just(5), Y: just(6)}, {X: to(4, 6), Y: to(5, 6)}}) || e != api.OK {
		t.Error(l, e)
	}
}

func TestP3_1LearnOfAny(t *testing.T) {
	r := chance()
	failed := 0
	for range 2000 {
		s := smallSurvey(r)
		facts := factsOf(s)
		l, e := radar.Learn(s)
		if len(facts) == 0 {
			failed++
			if len(l) != 0 || e != api.ErrFail {
				t.Fatal(s, l, e)
			}
		} else if want := knownOf(s, facts); !slices.Equal(l, want) || e != api.OK {
			t.Fatal(s, l, e, "not", want)
		}
	}
	if failed < 100 || failed > 1900 {
		t.Error("too few of a kind:", failed)
	}
}

func TestP3_2ProveField(t *testing.T) {
	at := func(numbers ...int) (field []radar.Move) {
		for i := 0; i < len(numbers); i += 2 {
			field = append(field, radar.Move{X: numbers[i], Y: numbers[i+1]})
		}
		return field
	}
	for _, x := range []struct {
		name  string
		field []radar.Move
		want  bool
	}{
		{"one that agrees", at(5, 4, 6, 5), true},
		{"up to Strain", at(5, 4, 5, 5), true},
		{"the least sight", at(5, 6, 5, 5), true},
		{"the greatest sight", at(5, 5, 6, 6), true},
		{"all less", at(5, 5, 4, 6), true},
		{"beyond Strain in X", at(1, 5, 5, 5), false},
		{"beyond Strain in Y", at(5, 3, 5, 5), false},
		{"between whole turns", at(4, 5, 5, 5), false},
		{"off by too much below", at(5, 5, 4, 5), false},
		{"off by too much above", at(5, 6, 7, 6), false},
		{"out of range in Y", at(5, 6, 5, 7), false},
		{"no field", nil, false},
		{"an empty one", at(), false},
		{"a movement less", at(5, 5), false},
		{"a movement more", at(5, 5, 5, 6, 5, 6), false},
		{"wild", at(math.MinInt, math.MaxInt, math.MaxInt, math.MinInt), false},
		{"wild at last", at(5, 5, math.MinInt, 5), false},
		{"a long one", make([]radar.Move, 100000), false},
	} {
		if radar.ProveField(ridge(), x.field) != x.want {
			t.Error(x.name)
		}
	}
	if !radar.ProveField(strained(ridge(), 4), at(1, 5, 5, 5)) || radar.ProveField(strained(ridge(), 3), at(1, 5, 5, 5)) {
		t.Error("a looser survey")
	}
	if radar.ProveField(strained(ridge(), 61), at(5, 5, 5, 5)) || radar.ProveField(radar.Survey{}, nil) {
		t.Error("surveys that are not valid")
	}
	// Two tools of one spot have to agree both, and one of another spot, too.
	s := with(with(bare(2), radar.Tool{A: 1, Turn: 3}, 0), radar.Tool{A: 1, Turn: 2}, 0)
	for x := range 11 {
		if radar.ProveField(s, at(x, 0, x, 0)) != (x%6 == 0) {
			t.Error("two tools:", x)
		}
		if radar.ProveField(with(s, radar.Tool{Spot: 1, A: 1}, 6), at(x, 0, x, 0)) != (x == 6) {
			t.Error("three tools:", x)
		}
	}
}

func TestP3_2ProveFieldOfAny(t *testing.T) {
	r := chance()
	agree := 0
	for range 400 {
		s := smallSurvey(r)
		for range 50 {
			var field []radar.Move
			inside := true
			for _, p := range s.Spots {
				m := radar.Move{X: anyIn(r, to(p.X.Lo-r.Intn(2), p.X.Hi+r.Intn(2))), Y: anyIn(r, to(p.Y.Lo-r.Intn(2), p.Y.Hi+r.Intn(2)))}
				inside = inside && p.X.Lo <= m.X && m.X <= p.X.Hi && p.Y.Lo <= m.Y && m.Y <= p.Y.Hi
				field = append(field, m)
			}
			_, want := factOf(s, field)
			want = want && inside
			if radar.ProveField(s, field) != want {
				t.Fatal(s, field, "is", want)
			}
			if want {
				agree++
			}
		}
	}
	if agree < 1000 {
		t.Error("too few that agree:", agree)
	}
}

func sameLists(a, b [][]int) bool { return slices.EqualFunc(a, b, slices.Equal[[]int]) }

func TestP3_3Turns(t *testing.T) {
	for _, x := range []struct {
		name string
		s    radar.Survey
		want [][]int
	}{
		{"the example", ridge(), [][]int{{1}}},
		{"the looser example", strained(ridge(), 6), [][]int{{0}, {1}}},
		{"no tools", bare(3), [][]int{nil}},
		{"no turns", with(bare(1), radar.Tool{A: 1}, 3), [][]int{nil}},
		{"below and above 0", with(bare(1), radar.Tool{A: 1, Turn: 4}, 5), [][]int{{-1}, {0}, {1}}},
		{"below -9 and above 9", with(bare(1), radar.Tool{A: 1, Turn: 2}, -15), [][]int{{8}, {9}, {10}, {11}, {12}}},
		{"rising below 0", with(bare(1), radar.Tool{A: 1, Turn: 2}, 24), [][]int{{-12}, {-11}, {-10}, {-9}, {-8}, {-7}}},
		{"far below", with(bare(1), radar.Tool{A: 1, Turn: 9}, 1000), [][]int{{-111}, {-110}}},
		{"far above", with(bare(1), radar.Tool{A: 1, Turn: 9}, -1000), [][]int{{112}}},
		{"not one between", with(bare(1), radar.Tool{A: 3, Turn: 2}, 0), [][]int{{0}, {3}, {6}, {9}, {12}, {15}}},
		{"by several at once", with(bare(1), radar.Tool{B: 1, Turn: 2, Err: 3}, 0), [][]int{{-1}, {0}, {1}}},
		{"several, off by drift", with(bare(1), radar.Tool{B: 1, Turn: 2, Err: 1, Drift: 2, Since: 9}, 1), [][]int{{-2}, {-1}, {0}, {1}}},
		{"one that cannot turn between", with(with(with(bare(1), radar.Tool{A: 1, Turn: 6}, 2), radar.Tool{A: 1, Err: 4}, 6), radar.Tool{A: -1, Turn: 3}, 1), [][]int{{0, -1}, {1, -3}}},
		{"the order of tools, not of spots", with(with(strained(bare(2), 10), radar.Tool{Spot: 1, A: 1, Turn: 6}, 0), radar.Tool{A: 1, Turn: 6}, 5), [][]int{{0, 0}, {1, 0}}},
		{"two spots, all with all", with(with(strained(bare(2), 10), radar.Tool{Spot: 1, A: 1, Turn: 6}, 0), radar.Tool{A: 1, Turn: 6}, 3), [][]int{{0, 0}, {0, 1}, {1, 0}, {1, 1}}},
		{"two spots, bound by Strain", with(with(strained(bare(2), 3), radar.Tool{Spot: 1, A: 1, Turn: 6}, 0), radar.Tool{A: 1, Turn: 6}, 3), [][]int{{0, 0}, {1, 0}, {1, 1}}},
	} {
		if l, e := radar.Turns(x.s); !sameLists(l, x.want) || e != api.OK {
			t.Error(x.name, l, e)
		}
	}
}

// counted has one spot, and a tool by as many turns as the numbers from -25 to 25 and one more for each X.
func counted(reach int) radar.Survey {
	s := with(bare(1), radar.Tool{A: 2, Turn: 2, Err: 50}, 0)
	s.Spots[0].X = to(0, reach)
	return s
}

func TestP3_3MostTurns(t *testing.T) {
	var want [][]int
	for n := -25; n <= 34; n++ {
		want = append(want, []int{n})
	}
	if l, e := radar.Turns(counted(9)); len(want) != 60 || !sameLists(l, want) || e != api.OK {
		t.Error("60 lists:", l, e)
	}
	if l, e := radar.Turns(counted(10)); len(l) != 0 || e != api.ErrLimit {
		t.Error("61 lists:", l, e)
	}
	// 6 times 10, and 6 times 11, of two spots.
	two := with(strained(bare(2), 60), radar.Tool{A: 1, Turn: 2}, 0)
	if l, e := radar.Turns(with(two, radar.Tool{Spot: 1, A: 1, Turn: 12, Err: 44, Drift: 1}, 3)); len(l) != 60 || e != api.OK {
		t.Error("6 times 10:", len(l), e)
	}
	if l, e := radar.Turns(with(two, radar.Tool{Spot: 1, A: 1, Turn: 12, Err: 50, Drift: 1}, 1)); len(l) != 0 || e != api.ErrLimit {
		t.Error("6 times 11:", len(l), e)
	}
	// One list, by many fields.
	if l, e := radar.Turns(with(strained(bare(6), 60), radar.Tool{A: 1, Turn: 200}, 5)); !sameLists(l, [][]int{{0}}) || e != api.OK {
		t.Error("many fields:", l, e)
	}
}

func TestP3_3TurnsOfAny(t *testing.T) {
	r := chance()
	seen := map[api.Errno]int{}
	for range 2000 {
		s := smallSurvey(r)
		facts := factsOf(s)
		want, wantE := listsOf(s, facts), api.OK
		if len(facts) == 0 {
			want, wantE = nil, api.ErrFail
		} else if len(want) > 60 {
			want, wantE = nil, api.ErrLimit
		}
		if l, e := radar.Turns(s); !sameLists(l, want) || e != wantE {
			t.Fatal(s, l, e, "not", want, wantE)
		}
		seen[wantE]++
	}
	if seen[api.OK] < 100 || seen[api.ErrFail] < 100 || seen[api.ErrLimit] < 5 {
		t.Error("too few of a kind:", seen)
	}
}

func TestP3_4Blame(t *testing.T) {
	wrong := ridge()
	wrong.Reads[1] = 20
	if l, e := radar.Blame(wrong); !slices.Equal(l, []int{1}) || e != api.OK {
		t.Error("the example:", l, e)
	}
	ruler := func(reads ...int) radar.Survey {
		s := bare(2)
		for i, read := range reads {
			s = with(s, radar.Tool{Spot: i % 2, A: 1}, read)
		}
		return s
	}
	apartFromTheStart := bare(2)
	apartFromTheStart.Spots[1].X = to(11, 12)
	half := with(with(bare(1), radar.Tool{A: 1, Turn: 2}, 0), radar.Tool{A: 1, Turn: 4}, 1)
	for _, x := range []struct {
		name string
		s    radar.Survey
		want []int
		e    api.Errno
	}{
		{"one alone", ruler(11), []int{0}, api.OK},
		{"one of two", ruler(11, 3), []int{0}, api.OK},
		{"either of two", ruler(4, 3), []int{0, 1}, api.OK},
		{"the first of three", ruler(3, 8, 8), []int{0}, api.OK},
		{"the second of three", ruler(8, 3, 8), []int{1}, api.OK},
		{"the last of eight", ruler(8, 8, 8, 8, 8, 8, 8, 3), []int{7}, api.OK},
		{"two pairs", ruler(3, 3, 8, 8), nil, api.ErrFail},
		{"two at once", ruler(11, 11, 8), nil, api.ErrFail},
		{"each one of three", ruler(3, 5, 8), nil, api.ErrFail},
		{"no tools", apartFromTheStart, nil, api.ErrFail},
		{"a tool that has nothing to do with it", with(apartFromTheStart, radar.Tool{A: 1}, 3), nil, api.ErrFail},
		{"none is wrong", ruler(8, 8), nil, api.ErrNone},
		{"nothing is known", ruler(), nil, api.ErrNone},
		{"the ridge", ridge(), nil, api.ErrNone},
		{"many turns that agree", counted(12), nil, api.ErrNone},
		{"turns that never meet", half, []int{0, 1}, api.OK},
		{"many turns that do not", with(counted(12), radar.Tool{A: 1}, 13), []int{1}, api.OK},
	} {
		if l, e := radar.Blame(x.s); !slices.Equal(l, x.want) || e != x.e {
			t.Error(x.name, l, e)
		}
	}
}

func TestP3_4BlameOfAny(t *testing.T) {
	r := chance()
	seen := map[api.Errno]int{}
	for range 2000 {
		s := smallSurvey(r)
		var want []int
		for tool := range s.Tools {
			if len(factsOf(without(s, tool))) > 0 {
				want = append(want, tool)
			}
		}
		wantE := api.OK
		if len(factsOf(s)) > 0 {
			want, wantE = nil, api.ErrNone
		} else if len(want) == 0 {
			wantE = api.ErrFail
		}
		if l, e := radar.Blame(s); !slices.Equal(l, want) || e != wantE {
			t.Fatal(s, l, e, "not", want, wantE)
		}
		seen[wantE]++
	}
	if seen[api.OK] < 100 || seen[api.ErrNone] < 100 || seen[api.ErrFail] < 5 {
		t.Error("too few of a kind:", seen)
	}
}

func TestP3_5Best(t *testing.T) {
	loose := strained(ridge(), 6)
	five := with(bare(1), radar.Tool{A: 1, Turn: 3}, 1) // 1, 4, 7, or 10
	aside := radar.Tool{B: 1}
	near := func(err int) radar.Tool { return radar.Tool{A: 1, Err: err} }
	for _, x := range []struct {
		name        string
		s           radar.Survey
		stakes      []radar.Tool
		best, worst int
	}{
		{"the example", loose, []radar.Tool{{B: 1}, {A: 1}}, 1, 1},
		{"of another spot", loose, []radar.Tool{{Spot: 1, A: 1}}, 0, 2},
		{"tells nothing", five, []radar.Tool{aside}, 0, 4},
		{"tells all", five, []radar.Tool{near(0)}, 0, 1},
		{"just not off enough for two", five, []radar.Tool{near(1)}, 0, 1},
		{"off enough for two", five, []radar.Tool{near(2)}, 0, 2},
		{"off enough for three", five, []radar.Tool{near(3)}, 0, 3},
		{"by a sight twice as far", five, []radar.Tool{{A: -2, Err: 2}}, 0, 1},
		{"by drift", five, []radar.Tool{{A: 1, Drift: 1, Since: 8}, {A: 1, Drift: 3, Since: 9}, {A: 1, Drift: 1, Since: 9}}, 2, 1},
		{"the first of equals", five, []radar.Tool{aside, near(2), near(1), near(0), near(1)}, 2, 1},
		{"the last one", five, []radar.Tool{aside, near(5), near(4), near(3), aside, aside, near(3), near(2)}, 7, 2},
		{"the first one", five, []radar.Tool{near(2), near(3)}, 0, 2},
		{"all the same", five, slices.Repeat([]radar.Tool{aside}, 8), 0, 4},
		{"one list", ridge(), []radar.Tool{{B: 1}}, 0, 1},
		{"no turns at all", bare(6), []radar.Tool{{Spot: 5, A: 1}}, 0, 1},
		{"60 lists", counted(9), []radar.Tool{aside}, 0, 60},
		{"60 lists, less than all by each read", counted(9), []radar.Tool{aside, near(0), near(3)}, 1, 51},
	} {
		if best, worst, e := radar.Best(x.s, x.stakes); best != x.best || worst != x.worst || e != api.OK {
			t.Error(x.name, best, worst, e)
		}
	}
	// The stake is a ninth tool.
	eight := bare(1)
	for range 8 {
		eight = with(eight, radar.Tool{A: 1, Turn: 5}, 2)
	}
	if best, worst, e := radar.Best(eight, []radar.Tool{aside, near(2)}); best != 1 || worst != 1 || e != api.OK {
		t.Error("beside eight tools:", best, worst, e)
	}
}

func TestP3_5BestErrors(t *testing.T) {
	fails := with(bare(1), radar.Tool{A: 1}, 20)
	good := radar.Tool{A: 1}
	check := func(name string, s radar.Survey, stakes []radar.Tool, want api.Errno) {
		t.Helper()
		if best, worst, e := radar.Best(s, stakes); best != 0 || worst != 0 || e != want {
			t.Error(name, best, worst, e)
		}
	}
	for name, s := range map[string]radar.Survey{"the ridge": ridge(), "one that fails": fails, "61 lists": counted(10)} {
		check(name+", no stakes", s, nil, api.ErrRange)
		check(name+", an empty list", s, []radar.Tool{}, api.ErrRange)
		check(name+", nine", s, slices.Repeat([]radar.Tool{good}, 9), api.ErrRange)
		check(name+", nine that are not valid", s, make([]radar.Tool, 9), api.ErrRange)
		check(name+", no sight", s, []radar.Tool{{}}, api.ErrArg)
		check(name+", a turn", s, []radar.Tool{{A: 1, Turn: 2}}, api.ErrArg)
		check(name+", no such spot", s, []radar.Tool{{A: 1, Spot: len(s.Spots)}}, api.ErrArg)
		check(name+", one of eight", s, append(slices.Repeat([]radar.Tool{good}, 7), radar.Tool{A: 1, Turn: 200}), api.ErrArg)
	}
	for name, change := range invalidTools() {
		stakes := []radar.Tool{good, good}
		change(&stakes[1])
		check(name, ridge(), stakes, api.ErrArg)
		slices.Reverse(stakes)
		check(name, ridge(), stakes, api.ErrArg)
	}
	check("nothing agrees", fails, []radar.Tool{good}, api.ErrFail)
	check("61 lists", counted(10), []radar.Tool{good}, api.ErrLimit)
}

func TestP3_5BestOfAny(t *testing.T) {
	r := chance()
	seen := map[api.Errno]int{}
	for range 400 {
		s := smallSurvey(r)
		facts := factsOf(s)
		var stakes []radar.Tool
		for range 1 + r.Intn(3) {
			stakes = append(stakes, anyStake(r, s))
		}
		wantBest, wantWorst, wantE := 0, 0, api.OK
		switch lists := listsOf(s, facts); {
		case len(facts) == 0:
			wantE = api.ErrFail
		case len(lists) > 60:
			wantE = api.ErrLimit
		default:
			for i, stake := range stakes {
				if worst := worstOf(s, facts, stake); i == 0 || worst < wantWorst {
					wantBest, wantWorst = i, worst
				}
			}
		}
		if best, worst, e := radar.Best(s, stakes); best != wantBest || worst != wantWorst || e != wantE {
			t.Fatal(s, stakes, best, worst, e, "not", wantBest, wantWorst, wantE)
		}
		seen[wantE]++
	}
	if seen[api.OK] < 50 || seen[api.ErrFail] < 20 {
		t.Error("too few of a kind:", seen)
	}
}
