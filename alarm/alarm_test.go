package alarm_test

import (
	"math"
	"slices"
	"testing"

	"sackung/alarm"
	"sackung/api"
)

func TestP4_1ValidPosts(t *testing.T) {
	for name, change := range map[string]func(p *alarm.Post){
		"the trio":      func(p *alarm.Post) {},
		"one gauge":     func(p *alarm.Post) { p.Errs = []int{0} },
		"most gauges":   func(p *alarm.Post) { p.Errs = make([]int, 10) },
		"most off":      func(p *alarm.Post) { p.Errs[2] = 1000 },
		"not off":       func(p *alarm.Post) { p.Errs[0] = 0 },
		"no gain":       func(p *alarm.Post) { p.Gain = 0 },
		"most gain":     func(p *alarm.Post) { p.Gain = 200 },
		"no drop":       func(p *alarm.Post) { p.Drop = 0 },
		"most drop":     func(p *alarm.Post) { p.Drop = 200 },
		"least fall":    func(p *alarm.Post) { p.Fall = 1 },
		"greatest fall": func(p *alarm.Post) { p.Fall = 1000 },
		"out at once":   func(p *alarm.Post) { p.Out = 0 },
		"out late":      func(p *alarm.Post) { p.Out = 60 },
		"not ahead":     func(p *alarm.Post) { p.Ahead = 0 },
		"far ahead":     func(p *alarm.Post) { p.Ahead = 60 },
	} {
		p := trio()
		change(&p)
		if e := alarm.CheckPost(p); e != api.OK {
			t.Error(name, e)
		}
	}
}

func invalidPosts() map[string]func(p *alarm.Post) {
	return map[string]func(p *alarm.Post){
		"no post":          func(p *alarm.Post) { *p = alarm.Post{} },
		"nil gauges":       func(p *alarm.Post) { p.Errs = nil },
		"no gauges":        func(p *alarm.Post) { p.Errs = []int{} },
		"too many gauges":  func(p *alarm.Post) { p.Errs = make([]int, 11) },
		"many gauges":      func(p *alarm.Post) { p.Errs = make([]int, 100000) },
		"an err below":     func(p *alarm.Post) { p.Errs[0] = -1 },
		"an err above":     func(p *alarm.Post) { p.Errs[2] = 1001 },
		"a wild err":       func(p *alarm.Post) { p.Errs[1] = math.MinInt },
		"a wild great err": func(p *alarm.Post) { p.Errs[1] = math.MaxInt },
		"gain below":       func(p *alarm.Post) { p.Gain = -1 },
		"gain above":       func(p *alarm.Post) { p.Gain = 201 },
		"gain wild":        func(p *alarm.Post) { p.Gain = math.MaxInt },
		"drop below":       func(p *alarm.Post) { p.Drop = -1 },
		"drop above":       func(p *alarm.Post) { p.Drop = 201 },
		"drop wild":        func(p *alarm.Post) { p.Drop = math.MinInt },
		"no fall":          func(p *alarm.Post) { p.Fall = 0 },
		"fall below":       func(p *alarm.Post) { p.Fall = -1 },
		"fall above":       func(p *alarm.Post) { p.Fall = 1001 },
		"fall wild":        func(p *alarm.Post) { p.Fall = math.MaxInt },
		"out below":        func(p *alarm.Post) { p.Out = -1 },
		"out above":        func(p *alarm.Post) { p.Out = 61 },
		"out wild":         func(p *alarm.Post) { p.Out = math.MaxInt },
		"ahead below":      func(p *alarm.Post) { p.Ahead = -1 },
		"ahead above":      func(p *alarm.Post) { p.Ahead = 61 },
		"ahead wild":       func(p *alarm.Post) { p.Ahead = math.MinInt },
	}
}

// refused asks all calls with reads for an error; Truth, also for an hour that is none and a speed that is none, as the error comes before theirs.
func refused(t *testing.T, name string, p alarm.Post, reads [][]int, want api.Errno) {
	t.Helper()
	if l, e := alarm.Levels(p, reads); len(l) != 0 || e != want {
		t.Error("Levels:", name, l, e)
	}
	if n, e := alarm.Breaks(p, reads); n != 0 || e != want {
		t.Error("Breaks:", name, n, e)
	}
	if l, e := alarm.Failed(p, reads); len(l) != 0 || e != want {
		t.Error("Failed:", name, l, e)
	}
	for _, hour := range []int{-1, 0, len(reads)} {
		for _, speed := range []int{-1, 12} {
			if n, l, e := alarm.Truth(p, reads, hour, speed); n != 0 || len(l) != 0 || e != want {
				t.Error("Truth:", name, hour, speed, n, l, e)
			}
		}
	}
	for _, failed := range []int{-1, 0} {
		if alarm.ProveTruth(p, reads, failed, make([]int, len(reads))) {
			t.Error("ProveTruth:", name, failed)
		}
	}
}

func TestP4_1InvalidPosts(t *testing.T) {
	for name, change := range invalidPosts() {
		p := trio()
		change(&p)
		if e := alarm.CheckPost(p); e != api.ErrArg {
			t.Error("CheckPost:", name, e)
		}
		// The error of the post stands ahead of those of the reads.
		for _, reads := range [][][]int{nil, stuck(), make([][]int, 61), {{1}}} {
			refused(t, name, p, reads, api.ErrArg)
		}
	}
}

func TestP4_1InvalidReads(t *testing.T) {
	rows := func(number int) [][]int { return slices.Repeat([][]int{{12, 12, 12}}, number) }
	with := func(row ...int) [][]int { return append(rows(2), row) }
	for _, x := range []struct {
		name  string
		reads [][]int
		want  api.Errno
	}{
		{"too many rows", rows(61), api.ErrLimit},
		{"many rows", make([][]int, 100000), api.ErrLimit},
		{"too many rows, and one that is none", append(rows(60), []int{1}), api.ErrLimit},
		{"too many rows, and a read that is none", append([][]int{{5000, 0, 0}}, rows(60)...), api.ErrLimit},
		{"no row", [][]int{nil}, api.ErrRange},
		{"an empty row", with(), api.ErrRange},
		{"a number less", with(12, 12), api.ErrRange},
		{"a number more", with(12, 12, 12, 12), api.ErrRange},
		{"a first row that is none", append([][]int{{12}}, rows(2)...), api.ErrRange},
		{"a row that is none in the middle", append(append(rows(2), []int{12}), rows(2)...), api.ErrRange},
		{"a read below", with(12, -1001, 12), api.ErrRange},
		{"a read above", with(12, 12, 2001), api.ErrRange},
		{"a first read below", append([][]int{{-1001, 12, 12}}, rows(2)...), api.ErrRange},
		{"a first read above", append([][]int{{2001, 12, 12}}, rows(2)...), api.ErrRange},
		{"a wild read", with(math.MinInt, 12, 12), api.ErrRange},
		{"a wild great read", with(math.MaxInt, 12, 12), api.ErrRange},
		{"reads that break, then none", [][]int{{0, 50, 100}, {1}}, api.ErrRange},
	} {
		refused(t, x.name, trio(), x.reads, x.want)
	}
	for name, reads := range map[string][][]int{"most rows": rows(60), "least read": with(12, 12, -1000), "greatest read": with(2000, 12, 12), "no rows": nil, "empty rows": {}} {
		if l, e := alarm.Levels(trio(), reads); len(l) != len(reads) || e != api.OK {
			t.Error(name, l, e)
		}
	}
}

func TestP4_1LevelsOfExamples(t *testing.T) {
	for _, x := range []struct {
		reads [][]int
		want  []alarm.State
	}{
		{stuck(), []alarm.State{{Lo: 8, Hi: 13, Level: alarm.Ready}, {Lo: 10, Hi: 14, Level: alarm.Ready}, {Lo: 13, Hi: 17, Level: alarm.Ready}}},
		{sudden(), []alarm.State{{Lo: 8, Hi: 13, Level: alarm.Ready}, {Lo: 10, Hi: 15, Level: alarm.Ready}, {Lo: 16, Hi: 18, Level: alarm.Call}}},
		{nil, nil},
	} {
		if l, e := alarm.Levels(trio(), x.reads); !slices.Equal(l, x.want) || e != api.OK {
			t.Error(x.reads, l, e)
		}
	}
}

// spans are the ends of states.
func spans(l []alarm.State) [][2]int {
	var ends [][2]int
	for _, x := range l {
		ends = append(ends, [2]int{x.Lo, x.Hi})
	}
	return ends
}

func TestP4_1WhatMayBe(t *testing.T) {
	moving := func(gain, drop int, errs ...int) alarm.Post {
		return alarm.Post{Errs: errs, Gain: gain, Drop: drop, Fall: 1000}
	}
	for _, x := range []struct {
		name  string
		p     alarm.Post
		reads [][]int
		want  [][2]int
	}{
		{"one gauge may always have failed", moving(3, 3, 0), [][]int{{5}, {6}}, [][2]int{{0, 1000}, {0, 1000}}},
		{"two that agree", moving(3, 3, 2, 3), [][]int{{50, 51}}, [][2]int{{48, 54}}},
		{"two that do not", moving(3, 3, 0, 0), [][]int{{3, 9}}, [][2]int{{3, 9}}},
		{"two that do not, for long", moving(1, 1, 0, 0), [][]int{{3, 9}, {4, 8}, {5, 9}}, [][2]int{{3, 9}, {4, 8}, {5, 9}}},
		{"one of two rises too fast", moving(5, 9, 0, 0), [][]int{{3, 19}, {9, 20}}, [][2]int{{3, 19}, {20, 20}}},
		{"one of two drops too fast", moving(9, 5, 0, 0), [][]int{{3, 19}, {9, 13}}, [][2]int{{3, 19}, {9, 9}}},
		{"rise and drop, just so", moving(4, 7, 0, 0, 0), [][]int{{50, 50, 50}, {54, 54, 54}, {47, 47, 47}}, [][2]int{{50, 50}, {54, 54}, {47, 47}}},
		{"rise limits", moving(4, 7, 10, 10, 10, 10), [][]int{{40, 60, 40, 60}, {60, 60, 60, 60}}, [][2]int{{50, 50}, {50, 54}}},
		{"drop limits", moving(4, 7, 10, 10, 10, 10), [][]int{{40, 60, 40, 60}, {38, 38, 38, 38}}, [][2]int{{50, 50}, {43, 48}}},
		{"off below 0", moving(4, 7, 5, 5), [][]int{{2, 2}, {-3, -3}, {-5, -5}}, [][2]int{{0, 7}, {0, 2}, {0, 0}}},
		{"off above the greatest speed", moving(4, 7, 5, 5), [][]int{{998, 998}, {1003, 1003}, {1005, 1005}}, [][2]int{{993, 1000}, {998, 1000}, {1000, 1000}}},
		{"far off", moving(4, 7, 1000, 1000), [][]int{{2000, 2000}, {2000, 2000}}, [][2]int{{1000, 1000}, {1000, 1000}}},
		{"far off below", moving(4, 7, 1000, 1000), [][]int{{-1000, -1000}}, [][2]int{{0, 0}}},
		{"a later hour says nothing of one before", moving(0, 0, 2, 2, 2), [][]int{{10, 10, 10}, {12, 12, 12}, {14, 14, 14}}, [][2]int{{8, 12}, {10, 12}, {12, 12}}},
		{"a gauge that reads what cannot be", moving(2, 2, 1, 1, 1), [][]int{{10, 11, -1000}, {10, 11, 10}}, [][2]int{{10, 11}, {10, 11}}},
	} {
		if l, e := alarm.Levels(x.p, x.reads); !slices.Equal(spans(l), x.want) || e != api.OK {
			t.Error(x.name, l, e)
		}
	}
}

// levelsAt are the levels at speeds that are known.
func levelsAt(t *testing.T, p alarm.Post, speeds ...int) []uint8 {
	t.Helper()
	p.Errs = []int{0, 0, 0}
	var l []uint8
	for _, speed := range speeds {
		states, e := alarm.Levels(p, [][]int{{speed, speed, speed}})
		if e != api.OK || len(states) != 1 {
			t.Fatal(p, speed, states, e)
		}
		l = append(l, states[0].Level)
	}
	return l
}

func TestP4_1LevelsByHoursLeft(t *testing.T) {
	for _, x := range []struct {
		name   string
		p      alarm.Post
		speeds []int
		want   []uint8
	}{
		{"each level", alarm.Post{Gain: 2, Fall: 20, Out: 3, Ahead: 2}, []int{0, 5, 6, 9, 10, 13, 14, 19, 20, 1000}, []uint8{0, 0, 1, 1, 2, 2, 3, 3, 3, 3}},
		{"at once", alarm.Post{Gain: 200, Fall: 1000}, []int{0, 800, 999, 1000}, []uint8{0, 0, 0, 3}},
		{"not ahead", alarm.Post{Gain: 1, Fall: 20, Out: 3}, []int{16, 17}, []uint8{0, 3}},
		{"ahead alone", alarm.Post{Gain: 1, Fall: 20, Ahead: 3}, []int{13, 14, 16, 17, 19, 20}, []uint8{0, 1, 1, 2, 2, 3}},
		{"hours without end", alarm.Post{Fall: 20, Out: 60, Ahead: 60, Drop: 9}, []int{0, 19, 20, 21}, []uint8{0, 0, 3, 3}},
		{"the longest", alarm.Post{Gain: 1, Fall: 200, Out: 60, Ahead: 60}, []int{19, 20, 79, 80, 139, 140}, []uint8{0, 1, 1, 2, 2, 3}},
		{"the least fall", alarm.Post{Gain: 1, Fall: 1, Ahead: 1}, []int{0, 1}, []uint8{2, 3}},
		{"hours that are not full", alarm.Post{Gain: 7, Fall: 20, Out: 2, Ahead: 1}, []int{0, 5, 6, 12, 13}, []uint8{2, 2, 3, 3, 3}},
	} {
		if l := levelsAt(t, x.p, x.speeds...); !slices.Equal(l, x.want) {
			t.Error(x.name, l)
		}
	}
}

func TestP4_1LevelsAreThoseOfTheGreatestSpeed(t *testing.T) {
	p := alarm.Post{Errs: []int{5, 5}, Gain: 1, Fall: 20, Out: 2, Ahead: 1}
	for read, want := range map[int]uint8{9: 0, 11: 1, 12: 2, 13: 3} {
		if l, e := alarm.Levels(p, [][]int{{read, read}}); !slices.Equal(l, []alarm.State{{Lo: read - 5, Hi: read + 5, Level: want}}) || e != api.OK {
			t.Error(read, l, e)
		}
	}
}

func TestP4_1Breaks(t *testing.T) {
	four := func(speeds ...int) [][]int {
		var l [][]int
		for _, speed := range speeds {
			l = append(l, slices.Repeat([]int{speed}, 4))
		}
		return l
	}
	moves := plain(4)
	moves.Gain, moves.Drop = 3, 7
	for _, x := range []struct {
		name  string
		p     alarm.Post
		reads [][]int
		hour  int
	}{
		{"at once", plain(3), [][]int{{1, 2, 3}}, 0},
		{"at once, and later", plain(3), [][]int{{1, 2, 3}, {1, 2, 3}}, 0},
		{"later", plain(3), [][]int{{3, 3, 3}, {3, 3, 3}, {1, 2, 3}, {3, 3, 3}}, 2},
		{"two gauges cannot have failed in turn", plain(3), [][]int{{3, 3, 9}, {3, 9, 3}}, 1},
		{"a rise that is too much", moves, four(50, 53, 57, 57), 2},
		{"a drop that is too much", moves, four(50, 43, 35), 2},
		{"below 0", moves, four(2, 0, -1), 2},
		{"above the greatest speed", moves, four(999, 1000, 1001), 2},
		{"all read what cannot be", moves, four(-1), 0},
		{"one agrees", moves, [][]int{{50, 50, 50, 50}, {50, 60, 70, 80}}, 1},
		{"the last hour of all", plain(2), append(slices.Repeat([][]int{{3, 4}}, 59), []int{4, 3}), 59},
	} {
		if n, e := alarm.Breaks(x.p, x.reads); n != x.hour || e != api.OK {
			t.Error("Breaks:", x.name, n, e)
		}
		if l, e := alarm.Levels(x.p, x.reads); len(l) != 0 || e != api.ErrFail {
			t.Error("Levels:", x.name, l, e)
		}
		if l, e := alarm.Failed(x.p, x.reads); len(l) != 0 || e != api.ErrFail {
			t.Error("Failed:", x.name, l, e)
		}
		if l, e := alarm.Levels(x.p, x.reads[:x.hour]); len(l) != x.hour || e != api.OK {
			t.Error("Levels up to the break:", x.name, l, e)
		}
	}
	for name, reads := range map[string][][]int{"the rise": four(50, 53, 56), "the drop": four(50, 43, 36), "one failed": {{3, 3, 3, 3}, {3, 3, 9, 3}, {3, 3, 0, 3}}, "no rows": nil, "empty": {}} {
		if n, e := alarm.Breaks(moves, reads); n != 0 || e != api.ErrNone {
			t.Error(name, n, e)
		}
	}
}

func TestP4_2Failed(t *testing.T) {
	for _, x := range []struct {
		name  string
		p     alarm.Post
		reads [][]int
		want  []int
	}{
		{"the example", trio(), stuck(), []int{1}},
		{"the sudden rise", trio(), sudden(), []int{-1, 0, 1, 2}},
		{"no rows", trio(), nil, []int{-1, 0, 1, 2}},
		{"empty rows", trio(), [][]int{}, []int{-1, 0, 1, 2}},
		{"one gauge", plain(1), [][]int{{7}, {7}}, []int{-1, 0}},
		{"one gauge that cannot be", plain(1), [][]int{{7}, {8}}, []int{0}},
		{"either of two", plain(2), [][]int{{7, 8}}, []int{0, 1}},
		{"the one of two that moves", plain(2), [][]int{{7, 8}, {8, 8}}, []int{0}},
		{"the one that is alone", plain(3), [][]int{{7, 7, 7}, {8, 7, 7}, {7, 7, 7}}, []int{0}},
		{"the last gauge", plain(10), [][]int{{0, 0, 0, 0, 0, 0, 0, 0, 0, 1}}, []int{9}},
		{"two that are as likely", alarm.Post{Errs: []int{1, 1, 1}, Fall: 9}, [][]int{{5, 7, 6}, {5, 7, 6}, {4, 7, 6}}, []int{0, 1}},
		{"found by what was before", alarm.Post{Errs: []int{0, 0}, Gain: 2, Drop: 1, Fall: 9}, [][]int{{5, 5}, {4, 7}, {5, 9}}, []int{0, 1}},
	} {
		if l, e := alarm.Failed(x.p, x.reads); !slices.Equal(l, x.want) || e != api.OK {
			t.Error(x.name, l, e)
		}
	}
}

func TestP4_2ProveTruth(t *testing.T) {
	for _, x := range []struct {
		name   string
		p      alarm.Post
		reads  [][]int
		failed int
		speeds []int
		want   bool
	}{
		{"the example", trio(), stuck(), 1, []int{10, 12, 15}, true},
		{"the least ones", trio(), stuck(), 1, []int{8, 10, 13}, true},
		{"the greatest ones", trio(), stuck(), 1, []int{12, 14, 17}, true},
		{"one below what a gauge reads", trio(), stuck(), 1, []int{7, 10, 13}, false},
		{"one above what a gauge reads", trio(), stuck(), 1, []int{12, 14, 18}, false},
		{"a rise too much", trio(), stuck(), 1, []int{8, 12, 15}, false},
		{"none failed", trio(), stuck(), -1, []int{10, 12, 15}, false},
		{"the first failed", trio(), stuck(), 0, []int{10, 12, 15}, false},
		{"the last failed", trio(), stuck(), 2, []int{10, 12, 15}, false},
		{"no such gauge", trio(), stuck(), 3, []int{10, 12, 15}, false},
		{"no such number", trio(), stuck(), -2, []int{10, 12, 15}, false},
		{"a wild number", trio(), stuck(), math.MinInt, []int{10, 12, 15}, false},
		{"a wild great number", trio(), stuck(), math.MaxInt, []int{10, 12, 15}, false},
		{"a speed less", trio(), stuck(), 1, []int{10, 12}, false},
		{"a speed more", trio(), stuck(), 1, []int{10, 12, 15, 15}, false},
		{"no speeds", trio(), stuck(), 1, nil, false},
		{"speeds alone", trio(), nil, 1, []int{10}, false},
		{"nothing", trio(), nil, 1, nil, true},
		{"nothing, and none failed", trio(), [][]int{}, -1, []int{}, true},
		{"nothing, and no such gauge", trio(), nil, 3, nil, false},
		{"any speed of one gauge", plain(1), [][]int{{7}, {9}}, 0, []int{1000, 1000}, true},
		{"a speed below", plain(1), [][]int{{7}, {9}}, 0, []int{-1, -1}, false},
		{"a speed above", plain(1), [][]int{{7}, {9}}, 0, []int{1001, 1001}, false},
		{"a speed that a gauge agrees with, below", plain(1), [][]int{{-1}}, -1, []int{-1}, false},
		{"a speed that a gauge agrees with, above", plain(1), [][]int{{1001}}, -1, []int{1001}, false},
		{"wild speeds", plain(1), [][]int{{7}, {9}}, 0, []int{math.MinInt, math.MaxInt}, false},
		{"wild great speeds", plain(1), [][]int{{7}, {9}}, 0, []int{math.MaxInt, math.MinInt}, false},
		{"a drop", alarm.Post{Errs: []int{0}, Drop: 3, Fall: 1}, [][]int{{7}, {4}}, -1, []int{7, 4}, true},
		{"a drop too much", alarm.Post{Errs: []int{0}, Drop: 3, Fall: 1}, [][]int{{7}, {3}}, -1, []int{7, 3}, false},
		{"a rise", alarm.Post{Errs: []int{0}, Gain: 3, Fall: 1}, [][]int{{7}, {10}}, -1, []int{7, 10}, true},
		{"a rise where there is none", alarm.Post{Errs: []int{0}, Drop: 3, Fall: 1}, [][]int{{7}, {8}}, -1, []int{7, 8}, false},
	} {
		if alarm.ProveTruth(x.p, x.reads, x.failed, x.speeds) != x.want {
			t.Error(x.name)
		}
	}
}

// hasTruth asks Truth for a truth, and whether it is one.
func hasTruth(t *testing.T, p alarm.Post, reads [][]int, hour, speed int) {
	t.Helper()
	failed, speeds, e := alarm.Truth(p, reads, hour, speed)
	if e != api.OK || len(speeds) != hour+1 || speeds[hour] != speed {
		t.Fatal(p, reads, hour, speed, failed, speeds, e)
	}
	if !isTruth(p, reads[:hour+1], failed, speeds) || !alarm.ProveTruth(p, reads[:hour+1], failed, speeds) {
		t.Fatal("no truth:", p, reads, hour, speed, failed, speeds)
	}
}

func hasNoTruth(t *testing.T, p alarm.Post, reads [][]int, hour, speed int) {
	t.Helper()
	if failed, speeds, e := alarm.Truth(p, reads, hour, speed); failed != 0 || len(speeds) != 0 || e != api.ErrNone {
		t.Fatal(p, reads, hour, speed, failed, speeds, e)
	}
}

func TestP4_2Truth(t *testing.T) {
	for hour, want := range [][2]int{{8, 13}, {10, 14}, {13, 17}} {
		for speed := 0; speed <= 1000; speed++ {
			if want[0] <= speed && speed <= want[1] {
				hasTruth(t, trio(), stuck(), hour, speed)
			} else {
				hasNoTruth(t, trio(), stuck(), hour, speed)
			}
		}
	}
	// Between two gauges that do not agree is no truth.
	for _, speed := range []int{3, 9} {
		hasTruth(t, plain(2), [][]int{{3, 9}}, 0, speed)
	}
	for speed := 4; speed < 9; speed++ {
		hasNoTruth(t, plain(2), [][]int{{3, 9}}, 0, speed)
	}
	hasTruth(t, plain(1), [][]int{{3}, {900}}, 1, 1000)
	hasTruth(t, plain(1), [][]int{{3}, {900}}, 1, 0)
}

func TestP4_2TruthBeforeTheBreak(t *testing.T) {
	reads := append(stuck(), []int{0, 500, 1000}, []int{15, 15, 15})
	for hour, speed := range []int{8, 10, 13} {
		hasTruth(t, trio(), reads, hour, speed)
	}
	for _, speed := range []int{0, 5, 15, 500, 1000} {
		hasNoTruth(t, trio(), reads, 3, speed)
		hasNoTruth(t, trio(), reads, 4, speed)
	}
}

func TestP4_2TruthOfNoHour(t *testing.T) {
	for _, x := range [][2]int{{-1, 12}, {3, 12}, {math.MinInt, 12}, {math.MaxInt, 12}, {2, -1}, {2, 1001}, {2, math.MinInt}, {2, math.MaxInt}, {3, -1}} {
		if failed, l, e := alarm.Truth(trio(), stuck(), x[0], x[1]); failed != 0 || len(l) != 0 || e != api.ErrRange {
			t.Error(x, failed, l, e)
		}
	}
	for _, reads := range [][][]int{nil, {}} {
		if failed, l, e := alarm.Truth(trio(), reads, 0, 12); failed != 0 || len(l) != 0 || e != api.ErrRange {
			t.Error(reads, failed, l, e)
		}
	}
	// An hour that is none stands ahead of a speed that no truth has.
	if _, _, e := alarm.Truth(trio(), [][]int{{0, 500, 1000}}, 1, 12); e != api.ErrRange {
		t.Error(e)
	}
}

func TestP4_3Spells(t *testing.T) {
	for _, x := range []struct {
		name   string
		speeds []int
		r      alarm.Rule
		want   []alarm.Spell
	}{
		{"the example", dusk(true).Speeds, alarm.Rule{Start: 10, Back: 6, Hold: 2}, []alarm.Spell{{From: 1, To: 4}, {From: 5, To: 7}}},
		{"no hours", nil, alarm.Rule{Hold: 1}, nil},
		{"no speed of Start", []int{4, 4, 4}, alarm.Rule{Start: 5, Hold: 1}, nil},
		{"the speed of Start", []int{4, 5, 4}, alarm.Rule{Start: 5, Back: 5, Hold: 1}, []alarm.Spell{{From: 1, To: 2}}},
		{"a speed above Start", []int{4, 6, 4}, alarm.Rule{Start: 5, Back: 5, Hold: 1}, []alarm.Spell{{From: 1, To: 2}}},
		{"the speed of Back stays", []int{5, 3, 3, 2, 3}, alarm.Rule{Start: 5, Back: 3, Hold: 1}, []alarm.Spell{{From: 0, To: 3}}},
		{"low in the hours that it holds", []int{5, 0, 0, 0, 5}, alarm.Rule{Start: 5, Back: 3, Hold: 3}, []alarm.Spell{{From: 0, To: 3}, {From: 4, To: 5}}},
		{"held behind a low hour", []int{5, 0, 4, 4, 0}, alarm.Rule{Start: 5, Back: 3, Hold: 2}, []alarm.Spell{{From: 0, To: 4}}},
		{"a start in the hours that it holds", []int{5, 0, 5, 0, 0}, alarm.Rule{Start: 5, Back: 3, Hold: 3}, []alarm.Spell{{From: 0, To: 3}}},
		{"held up to the end", []int{0, 5, 0, 0}, alarm.Rule{Start: 5, Back: 3, Hold: 3}, []alarm.Spell{{From: 1, To: 4}}},
		{"held longer than the season", []int{0, 5, 0, 0}, alarm.Rule{Start: 5, Back: 3, Hold: 60}, []alarm.Spell{{From: 1, To: 4}}},
		{"Back is 0", []int{5, 0, 0, 0}, alarm.Rule{Start: 5, Hold: 1}, []alarm.Spell{{From: 0, To: 4}}},
		{"Start is 0", []int{0, 0, 0}, alarm.Rule{Hold: 1}, []alarm.Spell{{From: 0, To: 3}}},
		{"each hour but one", []int{5, 4, 5, 4, 5}, alarm.Rule{Start: 5, Back: 5, Hold: 1}, []alarm.Spell{{From: 0, To: 1}, {From: 2, To: 3}, {From: 4, To: 5}}},
		{"the greatest speed", []int{999, 1000, 999}, alarm.Rule{Start: 1000, Back: 1000, Hold: 1}, []alarm.Spell{{From: 1, To: 2}}},
		{"the last hour", []int{0, 0, 5}, alarm.Rule{Start: 5, Back: 5, Hold: 2}, []alarm.Spell{{From: 2, To: 3}}},
	} {
		for _, fell := range []bool{false, true} {
			if l, e := alarm.Spells(alarm.Season{Speeds: x.speeds, Fell: fell}, x.r); !slices.Equal(l, x.want) || e != api.OK {
				t.Error(x.name, l, e)
			}
		}
	}
}

func invalidRules() map[string]alarm.Rule {
	return map[string]alarm.Rule{
		"start below":      {Start: -1, Back: -1, Hold: 1},
		"start alone":      {Start: -1, Hold: 1},
		"start above":      {Start: 1001, Hold: 1},
		"start wild":       {Start: math.MaxInt, Hold: 1},
		"start wild below": {Start: math.MinInt, Back: math.MinInt, Hold: 1},
		"back below":       {Start: 5, Back: -1, Hold: 1},
		"back above":       {Start: 5, Back: 6, Hold: 1},
		"back wild":        {Start: 5, Back: math.MinInt, Hold: 1},
		"hold of nothing":  {Start: 5, Back: 3},
		"hold below":       {Start: 5, Back: 3, Hold: -1},
		"hold above":       {Start: 5, Back: 3, Hold: 61},
		"hold wild":        {Start: 5, Back: 3, Hold: math.MaxInt},
	}
}

func TestP4_3InvalidRules(t *testing.T) {
	for name, r := range invalidRules() {
		if l, e := alarm.Spells(dusk(true), r); len(l) != 0 || e != api.ErrRange {
			t.Error("Spells:", name, l, e)
		}
		if n, fine, e := alarm.Price([]alarm.Season{dusk(true)}, dear(), r); n != 0 || fine || e != api.ErrRange {
			t.Error("Price:", name, n, fine, e)
		}
	}
	for _, r := range []alarm.Rule{{Hold: 1}, {Start: 1000, Back: 1000, Hold: 60}, {Start: 1000, Hold: 1}, {Start: 7, Back: 7, Hold: 1}} {
		if _, e := alarm.Spells(dusk(true), r); e != api.OK {
			t.Error("Spells:", r, e)
		}
		if _, _, e := alarm.Price([]alarm.Season{dusk(true)}, dear(), r); e != api.OK {
			t.Error("Price:", r, e)
		}
	}
}

// dear are the terms of the chapter's examples.
func dear() alarm.Terms { return alarm.Terms{Out: 2, Price: 100, Hour: 3, Less: 4, Hold: 2} }

func TestP4_3InvalidSeasons(t *testing.T) {
	long, fine := make([]int, 61), make([]int, 60)
	for _, x := range []struct {
		name string
		s    alarm.Season
		want api.Errno
	}{
		{"a speed below", alarm.Season{Speeds: []int{-1}}, api.ErrArg},
		{"a speed above", alarm.Season{Speeds: []int{5, 1001}}, api.ErrArg},
		{"a wild speed", alarm.Season{Speeds: []int{math.MinInt, 5}}, api.ErrArg},
		{"a wild great speed", alarm.Season{Speeds: []int{5, math.MaxInt, 5}, Fell: true}, api.ErrArg},
		{"too long", alarm.Season{Speeds: long}, api.ErrLimit},
		{"very long", alarm.Season{Speeds: make([]int, 100000), Fell: true}, api.ErrLimit},
		{"too long, with a speed that is none", alarm.Season{Speeds: append([]int{-1}, fine...)}, api.ErrLimit},
	} {
		// The errors of a season stand ahead of those of rules and terms.
		for _, r := range []alarm.Rule{{Start: 5, Hold: 1}, {}} {
			if l, e := alarm.Spells(x.s, r); len(l) != 0 || e != x.want {
				t.Error("Spells:", x.name, l, e)
			}
		}
		notPriced(t, x.name, []alarm.Season{x.s}, x.want)
		notPriced(t, "the last season: "+x.name, []alarm.Season{dusk(true), x.s}, x.want)
	}
	if _, e := alarm.Spells(alarm.Season{Speeds: append(fine[:58:58], 0, 1000)}, alarm.Rule{Hold: 1}); e != api.OK {
		t.Error("the longest season:", e)
	}
}

// notPriced asks Price and Best for an error, with terms and a rule that are not valid, either.
func notPriced(t *testing.T, name string, l []alarm.Season, want api.Errno) {
	t.Helper()
	for _, terms := range []alarm.Terms{dear(), {}} {
		for _, r := range []alarm.Rule{{Start: 5, Hold: 1}, {}} {
			if n, fine, e := alarm.Price(l, terms, r); n != 0 || fine || e != want {
				t.Error("Price:", name, n, fine, e)
			}
		}
		if r, n, e := alarm.Best(l, terms); r != (alarm.Rule{}) || n != 0 || e != want {
			t.Error("Best:", name, r, n, e)
		}
	}
}

func TestP4_4InvalidLists(t *testing.T) {
	long, wrong := alarm.Season{Speeds: make([]int, 61)}, alarm.Season{Speeds: []int{-1}}
	many := make([]alarm.Season, 11)
	notPriced(t, "no seasons", nil, api.ErrArg)
	notPriced(t, "empty seasons", []alarm.Season{}, api.ErrArg)
	notPriced(t, "too many seasons", many, api.ErrLimit)
	notPriced(t, "very many seasons", make([]alarm.Season, 100000), api.ErrLimit)
	notPriced(t, "too many seasons, one wrong", append([]alarm.Season{wrong}, many...), api.ErrLimit)
	notPriced(t, "a wrong one, then a long one", []alarm.Season{wrong, long}, api.ErrLimit)
	notPriced(t, "a long one, then a wrong one", []alarm.Season{long, wrong}, api.ErrLimit)
	if _, _, e := alarm.Price(many[:10], dear(), alarm.Rule{Hold: 1}); e != api.OK {
		t.Error("most seasons:", e)
	}
	if _, _, e := alarm.Best(many[:10], dear()); e != api.OK {
		t.Error("most seasons:", e)
	}
}

func TestP4_4Terms(t *testing.T) {
	for name, change := range map[string]func(x *alarm.Terms){
		"out below":         func(x *alarm.Terms) { x.Out = -1 },
		"out above":         func(x *alarm.Terms) { x.Out = 61 },
		"out wild":          func(x *alarm.Terms) { x.Out = math.MinInt },
		"price below":       func(x *alarm.Terms) { x.Price = -1 },
		"price above":       func(x *alarm.Terms) { x.Price = 1001 },
		"price wild":        func(x *alarm.Terms) { x.Price = math.MaxInt },
		"hour below":        func(x *alarm.Terms) { x.Hour = -1 },
		"hour above":        func(x *alarm.Terms) { x.Hour = 1001 },
		"hour wild":         func(x *alarm.Terms) { x.Hour = math.MaxInt },
		"less below":        func(x *alarm.Terms) { x.Less = -1 },
		"less above":        func(x *alarm.Terms) { x.Less = 1001 },
		"less wild":         func(x *alarm.Terms) { x.Less = math.MinInt },
		"a hold of nothing": func(x *alarm.Terms) { x.Hold = 0 },
		"hold below":        func(x *alarm.Terms) { x.Hold = -1 },
		"hold above":        func(x *alarm.Terms) { x.Hold = 61 },
		"hold wild":         func(x *alarm.Terms) { x.Hold = math.MaxInt },
	} {
		terms := dear()
		change(&terms)
		if n, fine, e := alarm.Price([]alarm.Season{dusk(true)}, terms, alarm.Rule{Start: 5, Hold: 1}); n != 0 || fine || e != api.ErrRange {
			t.Error("Price:", name, n, fine, e)
		}
		// A season that no rule is in time for stands behind the terms.
		if r, n, e := alarm.Best([]alarm.Season{{Fell: true}}, terms); r != (alarm.Rule{}) || n != 0 || e != api.ErrRange {
			t.Error("Best:", name, r, n, e)
		}
	}
	for _, terms := range []alarm.Terms{{Hold: 1}, {Out: 60, Price: 1000, Hour: 1000, Less: 1000, Hold: 60}} {
		if _, _, e := alarm.Price([]alarm.Season{dusk(false)}, terms, alarm.Rule{Hold: 1}); e != api.OK {
			t.Error("Price:", terms, e)
		}
		if _, _, e := alarm.Best([]alarm.Season{dusk(false)}, terms); e != api.OK {
			t.Error("Best:", terms, e)
		}
	}
}

func TestP4_4Price(t *testing.T) {
	rule := alarm.Rule{Start: 10, Back: 6, Hold: 2}
	with := func(out, price, hour int) alarm.Terms {
		return alarm.Terms{Out: out, Price: price, Hour: hour, Less: 9, Hold: 9}
	}
	for _, x := range []struct {
		name  string
		l     []alarm.Season
		t     alarm.Terms
		r     alarm.Rule
		price int
		fine  bool
	}{
		{"the example", []alarm.Season{dusk(true)}, with(2, 100, 3), rule, 115, true},
		{"it did not fall", []alarm.Season{dusk(false)}, with(2, 100, 3), rule, 215, true},
		{"too late by an hour", []alarm.Season{dusk(true)}, with(3, 100, 3), rule, 115, false},
		{"not late, as it did not fall", []alarm.Season{dusk(false)}, with(60, 100, 3), rule, 215, true},
		{"hours alone", []alarm.Season{dusk(true)}, with(2, 0, 3), rule, 15, true},
		{"calls alone", []alarm.Season{dusk(true)}, with(2, 100, 0), rule, 100, true},
		{"both", []alarm.Season{dusk(true), dusk(false)}, with(2, 100, 3), rule, 330, true},
		{"one of both is late", []alarm.Season{dusk(false), dusk(true)}, with(3, 100, 3), rule, 330, false},
		{"the first of both is late", []alarm.Season{dusk(true), dusk(false)}, with(3, 100, 3), rule, 330, false},
		{"no alarm", []alarm.Season{dusk(true)}, with(0, 100, 3), alarm.Rule{Start: 16, Hold: 1}, 0, false},
		{"no alarm is needed", []alarm.Season{dusk(false)}, with(0, 100, 3), alarm.Rule{Start: 16, Hold: 1}, 0, true},
		{"none is on at the end", []alarm.Season{{Speeds: []int{12, 0}, Fell: true}}, with(0, 100, 3), alarm.Rule{Start: 10, Back: 6, Hold: 1}, 103, false},
		{"an hour, and out at once", []alarm.Season{{Speeds: []int{0, 12}, Fell: true}}, with(0, 100, 3), rule, 3, true},
		{"an hour that is enough", []alarm.Season{{Speeds: []int{0, 12}, Fell: true}}, with(1, 100, 3), rule, 3, true},
		{"an hour that is not enough", []alarm.Season{{Speeds: []int{0, 12}, Fell: true}}, with(2, 100, 3), rule, 3, false},
		{"hours of two alarms do not add up", []alarm.Season{{Speeds: []int{12, 12, 12, 0, 12}, Fell: true}}, with(2, 100, 3), rule, 112, false},
		{"no hours, and it fell", []alarm.Season{{Fell: true}}, with(0, 100, 3), rule, 0, false},
		{"no hours", []alarm.Season{{}}, with(60, 100, 3), rule, 0, true},
		{"on at the end by its Hold alone", []alarm.Season{{Speeds: []int{12, 0}, Fell: true}}, with(2, 100, 3), rule, 6, true},
		{"the dearest", slices.Repeat([]alarm.Season{{Speeds: slices.Repeat([]int{9, 0}, 30)}}, 10), with(0, 1000, 1000), alarm.Rule{Start: 9, Back: 9, Hold: 1}, 600000, true},
	} {
		if n, fine, e := alarm.Price(x.l, x.t, x.r); n != x.price || fine != x.fine || e != api.OK {
			t.Error(x.name, n, fine, e)
		}
	}
}

func TestP4_4PriceByTheRulesOwnBackAndHold(t *testing.T) {
	for less := 0; less <= 1000; less += 125 {
		for _, hold := range []int{1, 7, 60} {
			terms := alarm.Terms{Out: 2, Price: 100, Hour: 3, Less: less, Hold: hold}
			if n, fine, e := alarm.Price([]alarm.Season{dusk(true)}, terms, alarm.Rule{Start: 10, Back: 6, Hold: 2}); n != 115 || !fine || e != api.OK {
				t.Error(terms, n, fine, e)
			}
		}
	}
}

func TestP4_5Best(t *testing.T) {
	for _, x := range []struct {
		name  string
		l     []alarm.Season
		t     alarm.Terms
		r     alarm.Rule
		price int
	}{
		{"the example", []alarm.Season{dusk(true)}, dear(), alarm.Rule{Start: 14, Back: 10, Hold: 2}, 6},
		{"an hour more", []alarm.Season{dusk(true)}, alarm.Terms{Out: 3, Price: 100, Hour: 3, Less: 4, Hold: 2}, alarm.Rule{Start: 7, Back: 3, Hold: 2}, 18},
		{"all hours", []alarm.Season{dusk(true)}, alarm.Terms{Out: 7, Price: 100, Hour: 3, Less: 4, Hold: 2}, alarm.Rule{Start: 5, Back: 1, Hold: 2}, 21},
		{"it did not fall", []alarm.Season{dusk(false)}, dear(), alarm.Rule{Start: 1000, Back: 996, Hold: 2}, 0},
		{"no hours", []alarm.Season{{}}, dear(), alarm.Rule{Start: 1000, Back: 996, Hold: 2}, 0},
		{"Back stays at 0", []alarm.Season{{Speeds: []int{3, 0, 0}, Fell: true}}, alarm.Terms{Out: 3, Less: 5, Hold: 1}, alarm.Rule{Start: 3, Hold: 1}, 0},
		{"Back is Start", []alarm.Season{{Speeds: []int{3, 3, 3}, Fell: true}}, alarm.Terms{Out: 3, Hold: 1}, alarm.Rule{Start: 3, Back: 3, Hold: 1}, 0},
		{"Start is 0", []alarm.Season{{Speeds: []int{0, 9, 0}, Fell: true}}, alarm.Terms{Out: 3, Price: 9, Hour: 1, Less: 5, Hold: 1}, alarm.Rule{Hold: 1}, 3},
		{"nothing costs", []alarm.Season{dusk(true)}, alarm.Terms{Out: 1, Less: 4, Hold: 2}, alarm.Rule{Start: 15, Back: 11, Hold: 2}, 0},
		{"the greatest speed", []alarm.Season{{Speeds: []int{0, 1000}, Fell: true}}, alarm.Terms{Out: 1, Hour: 2, Less: 1000, Hold: 1}, alarm.Rule{Start: 1000, Hold: 1}, 2},
		{"one season asks for more than the other", []alarm.Season{{Speeds: []int{2, 2, 9}, Fell: true}, {Speeds: []int{2, 5, 9}, Fell: true}}, alarm.Terms{Out: 2, Price: 9, Hour: 1, Less: 1, Hold: 1}, alarm.Rule{Start: 2, Back: 1, Hold: 1}, 6},
		// One long alarm costs less than two that fall apart.
		{"a lower Start is cheaper", []alarm.Season{{Speeds: []int{9, 5, 9, 5, 9}}, {Speeds: []int{9}, Fell: true}}, alarm.Terms{Out: 1, Price: 100, Hour: 1, Less: 0, Hold: 1}, alarm.Rule{Start: 5, Back: 5, Hold: 1}, 106},
	} {
		if r, n, e := alarm.Best(x.l, x.t); r != x.r || n != x.price || e != api.OK {
			t.Error(x.name, r, n, e)
		}
	}
}

func TestP4_5BestIsLate(t *testing.T) {
	for name, l := range map[string][]alarm.Season{
		"no hours":         {{Fell: true}},
		"too few hours":    {{Speeds: []int{1000}, Fell: true}},
		"the last is late": {dusk(true), dusk(false), {Speeds: []int{5}, Fell: true}},
	} {
		if r, n, e := alarm.Best(l, dear()); r != (alarm.Rule{}) || n != 0 || e != api.ErrLate {
			t.Error(name, r, n, e)
		}
	}
	terms := dear()
	terms.Out = 0
	if r, n, e := alarm.Best([]alarm.Season{{Fell: true}}, terms); r != (alarm.Rule{}) || n != 0 || e != api.ErrLate {
		t.Error("out at once:", r, n, e)
	}
}
