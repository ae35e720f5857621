package radar_test

import (
	"math/rand"
	"reflect"
	"slices"
	"testing"

	"sackung/api"
	"sackung/radar"
)

// wideTrue is a survey up to the limits of spots, spans and tools, with a field that agrees and its turns.
func wideTrue(r *rand.Rand) (radar.Survey, []radar.Move, []int) {
	return anyTrue(r, 1+r.Intn(6), 12, r.Intn(9), 40)
}

// learnt is what Learn returns, which has to be no error.
func learnt(t *testing.T, s radar.Survey) []radar.Spot {
	t.Helper()
	l, e := radar.Learn(s)
	if e != api.OK || len(l) != len(s.Spots) {
		t.Fatal(s, l, e)
	}
	return l
}

func within(x, wider radar.Range) bool { return wider.Lo <= x.Lo && x.Hi <= wider.Hi }

func spotsWithin(l, wider []radar.Spot) bool {
	return slices.EqualFunc(l, wider, func(a, b radar.Spot) bool { return within(a.X, b.X) && within(a.Y, b.Y) })
}

func hasList(lists [][]int, list []int) bool {
	return slices.ContainsFunc(lists, func(l []int) bool { return slices.Equal(l, list) })
}

func TestP3_6AnyTruth(t *testing.T) {
	r := chance()
	listed := 0
	for range 500 {
		s, field, turns := wideTrue(r)
		if !radar.ProveField(s, field) {
			t.Fatal("a field that agrees:", s, field)
		}
		var exact []radar.Spot
		for _, m := range field {
			exact = append(exact, radar.Spot{X: just(m.X), Y: just(m.Y)})
		}
		if l := learnt(t, s); !spotsWithin(exact, l) {
			t.Fatal(s, field, l)
		}
		lists, e := radar.Turns(s)
		if e == api.OK && !hasList(lists, turns) || e != api.OK && e != api.ErrLimit {
			t.Fatal(s, field, turns, lists, e)
		}
		if e == api.OK {
			listed++
		}
		if l, e := radar.Blame(s); len(l) != 0 || e != api.ErrNone {
			t.Fatal("blamed, though all agree:", s, field, l, e)
		}
	}
	if listed < 100 {
		t.Error("too few lists:", listed)
	}
}

// placed is a survey in which a spot moves by this number, along X or along Y.
func placed(s radar.Survey, spot int, alongY bool, number int) radar.Survey {
	s = copied(s)
	if alongY {
		s.Spots[spot].Y = just(number)
	} else {
		s.Spots[spot].X = just(number)
	}
	return s
}

func TestP3_7EachEnd(t *testing.T) {
	r := chance()
	for range 60 {
		s, _, _ := wideTrue(r)
		known := learnt(t, s)
		for i, p := range s.Spots {
			for _, alongY := range []bool{false, true} {
				all, got := p.X, known[i].X
				if alongY {
					all, got = p.Y, known[i].Y
				}
				for number := all.Lo; number <= all.Hi; number++ {
					one := placed(s, i, alongY, number)
					l, e := radar.Learn(one)
					switch {
					case number < got.Lo || number > got.Hi:
						if e != api.ErrFail {
							t.Fatal("outside:", s, i, alongY, number, l, e)
						}
					case number == got.Lo || number == got.Hi:
						if e != api.OK || !spotsWithin(l, known) {
							t.Fatal("an end:", s, i, alongY, number, l, e)
						}
					}
				}
			}
		}
	}
}

// turned is a survey in which the turns are known, if its reads can be told.
func turned(s radar.Survey, list []int) (known radar.Survey, told bool) {
	s = copied(s)
	for i, n := 0, 0; i < len(s.Tools); i++ {
		if s.Tools[i].Turn == 0 {
			continue
		}
		s.Reads[i] += s.Tools[i].Turn * list[n]
		s.Tools[i].Turn = 0
		n++
		if apart(s.Reads[i], 0) > api.MaxRead {
			return s, false
		}
	}
	return s, true
}

func TestP3_8EachList(t *testing.T) {
	r := chance()
	for range 300 {
		s, _, _ := wideTrue(r)
		lists, e := radar.Turns(s)
		if e != api.OK {
			continue
		}
		if !slices.IsSortedFunc(lists, slices.Compare) || len(slices.CompactFunc(slices.Clone(lists), slices.Equal)) != len(lists) {
			t.Fatal("not rising:", s, lists)
		}
		for _, list := range lists {
			if known, told := turned(s, list); told {
				learnt(t, known)
			}
			other := slices.Clone(list)
			if len(other) > 0 {
				other[r.Intn(len(other))] += r.Intn(3) - 1
			}
			known, told := turned(s, other)
			if _, e := radar.Learn(known); told && (e == api.OK) != hasList(lists, other) {
				t.Fatal(s, lists, other, e)
			}
		}
	}
}

// tighter is a survey that knows more: by one tool more, a narrower range, or less of Strain, Err or Drift.
func tighter(r *rand.Rand, s radar.Survey) (radar.Survey, string) {
	spot := r.Intn(len(s.Spots))
	if len(s.Tools) == 0 || r.Intn(2) == 0 && len(s.Tools) < 8 {
		return with(s, anyTool(r, s, 40), r.Intn(101)-50), "a tool more"
	}
	s = copied(s)
	tool := r.Intn(len(s.Tools))
	switch r.Intn(5) {
	case 0:
		low := anyIn(r, s.Spots[spot].X)
		s.Spots[spot].X = to(low, anyIn(r, to(low, s.Spots[spot].X.Hi)))
		return s, "X"
	case 1:
		low := anyIn(r, s.Spots[spot].Y)
		s.Spots[spot].Y = to(low, anyIn(r, to(low, s.Spots[spot].Y.Hi)))
		return s, "Y"
	case 2:
		s.Strain = r.Intn(s.Strain + 1)
		return s, "Strain"
	case 3:
		s.Tools[tool].Err = r.Intn(s.Tools[tool].Err + 1)
		return s, "Err"
	}
	s.Tools[tool].Drift = r.Intn(s.Tools[tool].Drift + 1)
	return s, "Drift"
}

func TestP3_9OneMore(t *testing.T) {
	r := chance()
	for range 1500 {
		s, _, _ := wideTrue(r)
		more, what := tighter(r, s)
		known := learnt(t, s)
		l, e := radar.Learn(more)
		if e != api.ErrFail && (e != api.OK || !spotsWithin(l, known)) {
			t.Fatal(what, s, more, known, l, e)
		}
		lists, e := radar.Turns(s)
		left, f := radar.Turns(more)
		if e != api.OK || what == "a tool more" || f == api.ErrFail {
			continue
		}
		if f != api.OK || slices.ContainsFunc(left, func(list []int) bool { return !hasList(lists, list) }) {
			t.Fatal(what, s, more, lists, left, f)
		}
	}
}

func TestP3_10Failed(t *testing.T) {
	r := chance()
	failed := 0
	for range 1500 {
		s, field, _ := wideTrue(r)
		if len(s.Tools) == 0 {
			continue
		}
		wrong := r.Intn(len(s.Tools))
		s.Reads[wrong] += 5 + r.Intn(95)
		if _, e := radar.Learn(s); e == api.OK {
			continue
		}
		failed++
		blamed, e := radar.Blame(s)
		if e != api.OK || !slices.Contains(blamed, wrong) || !radar.ProveField(without(s, wrong), field) {
			t.Fatal(s, wrong, blamed, e)
		}
		for tool := range s.Tools {
			if _, e := radar.Learn(without(s, tool)); (e == api.OK) != slices.Contains(blamed, tool) {
				t.Fatal(s, tool, blamed, e)
			}
		}
	}
	if failed < 100 {
		t.Error("too few that failed:", failed)
	}
}

func TestP3_11AWholeTurn(t *testing.T) {
	r := chance()
	for range 500 {
		s, _, _ := wideTrue(r)
		known := learnt(t, s)
		lists, e := radar.Turns(s)
		number := 0
		for tool, x := range s.Tools {
			if x.Turn == 0 {
				continue
			}
			on := copied(s)
			on.Reads[tool] += x.Turn
			if l := learnt(t, on); !slices.Equal(l, known) {
				t.Fatal(s, tool, l, known)
			}
			moved, f := radar.Turns(on)
			for _, list := range moved {
				list[number]++
			}
			if e != f || !sameLists(moved, lists) {
				t.Fatal(s, tool, moved, f, lists, e)
			}
			number++
		}
	}
}

func TestP3_12BestStake(t *testing.T) {
	r := chance()
	told := 0
	for range 200 {
		s, field, _ := anyTrue(r, 1+r.Intn(6), 6, r.Intn(8), 12)
		lists, e := radar.Turns(s)
		if e != api.OK {
			continue
		}
		told++
		var stakes []radar.Tool
		for range 1 + r.Intn(8) {
			stakes = append(stakes, anyStake(r, s))
		}
		best, worst, e := radar.Best(s, stakes)
		if e != api.OK || worst < 1 || worst > len(lists) {
			t.Fatal(s, stakes, best, worst, e)
		}
		for i, stake := range stakes {
			_, alone, e := radar.Best(s, []radar.Tool{stake})
			if e != api.OK || alone < worst || i < best && alone == worst || i == best && alone != worst || alone > len(lists) {
				t.Fatal(s, stakes, best, worst, "but", i, alone, e)
			}
		}
		stake := stakes[best]
		sight, off := sightOf(stake, field[stake.Spot]), offOf(s, stake)
		met := 0
		for read := -90; read <= 90; read++ {
			left, e := radar.Turns(with(s, stake, read))
			came := apart(read, sight) <= off
			if e == api.ErrLimit || came && e != api.OK || len(left) > worst {
				t.Fatal(s, stake, read, left, e, worst)
			}
			met = max(met, len(left))
		}
		if met > worst || met < worst && within(stakeSights(s, stake), to(off-90, 90-off)) {
			t.Fatal("no read leaves the worst:", s, stake, met, worst)
		}
	}
	if told < 100 {
		t.Error("too few:", told)
	}
}

func stakeSights(s radar.Survey, stake radar.Tool) radar.Range {
	p := s.Spots[stake.Spot]
	x, y := radar.Range{Lo: stake.A * p.X.Lo, Hi: stake.A * p.X.Hi}, radar.Range{Lo: stake.B * p.Y.Lo, Hi: stake.B * p.Y.Hi}
	return to(min(x.Lo, x.Hi)+min(y.Lo, y.Hi), max(x.Lo, x.Hi)+max(y.Lo, y.Hi))
}

// R3: a nil list and an empty one are the same.
func TestNilLists(t *testing.T) {
	none, empty := bare(1), bare(1)
	empty.Tools, empty.Reads = []radar.Tool{}, []int{}
	if a, b := learnt(t, none), learnt(t, empty); !slices.Equal(a, b) {
		t.Error(a, b)
	}
	if radar.ProveField(radar.Survey{}, []radar.Move{}) || !radar.ProveField(empty, []radar.Move{{}}) {
		t.Error("ProveField")
	}
}

// R4: arguments stay as they are, and results are new memory.
func TestArgumentsStay(t *testing.T) {
	s, stakes := strained(ridge(), 6), []radar.Tool{{B: 1}, {A: 1}}
	wrong := ridge()
	wrong.Reads[1] = 20
	wrong = with(wrong, radar.Tool{B: 1, Err: 50}, 3)
	wantWrong, field := copied(wrong), []radar.Move{{X: 5, Y: 5}, {X: 5, Y: 5}}
	radar.CheckSurvey(s)
	radar.Learn(s)
	radar.Turns(s)
	radar.Best(s, stakes)
	radar.ProveField(s, field)
	radar.Blame(wrong)
	if !reflect.DeepEqual(s, strained(ridge(), 6)) || !slices.Equal(stakes, []radar.Tool{{B: 1}, {A: 1}}) || !reflect.DeepEqual(wrong, wantWrong) {
		t.Error("an argument was changed:", s, stakes, wrong)
	}
	if !slices.Equal(field, []radar.Move{{X: 5, Y: 5}, {X: 5, Y: 5}}) {
		t.Error("the field was changed:", field)
	}
}

// What lies in memory behind the lists of an argument stays, too.
func TestBehindArgumentsStays(t *testing.T) {
	tools, reads, stakes := []radar.Tool{{A: 1}, {A: 1, Err: 1}, {B: 2}}, []int{4, 6, 77}, []radar.Tool{{B: 1}, {A: 1}, {B: 2}}
	s := bare(1)
	s.Tools, s.Reads = tools[:2], reads[:2]
	if l, e := radar.Blame(s); !slices.Equal(l, []int{0, 1}) || e != api.OK {
		t.Error(l, e)
	}
	s.Tools, s.Reads = tools[:1], reads[:1]
	if best, worst, e := radar.Best(s, stakes[:2]); best != 0 || worst != 1 || e != api.OK {
		t.Error(best, worst, e)
	}
	if !slices.Equal(tools, []radar.Tool{{A: 1}, {A: 1, Err: 1}, {B: 2}}) || !slices.Equal(reads, []int{4, 6, 77}) || !slices.Equal(stakes, []radar.Tool{{B: 1}, {A: 1}, {B: 2}}) {
		t.Error("changed:", tools, reads, stakes)
	}
}

func TestResultsShareNothing(t *testing.T) {
	s := bare(3)
	for i := range learnt(t, s) {
		known := learnt(t, s)
		known[i] = radar.Spot{X: just(-7)}
		if !reflect.DeepEqual(s, bare(3)) {
			t.Fatal("an argument was changed by a result:", s)
		}
	}
	two := with(with(strained(bare(2), 10), radar.Tool{A: 1, Turn: 3}, 0), radar.Tool{Spot: 1, A: 1, Turn: 6}, 3)
	want, _ := radar.Turns(two)
	for i := range want {
		lists, _ := radar.Turns(two)
		for k := range lists[i] {
			lists[i][k] = -77
		}
		_ = append(lists[i], -77)
		for k, list := range lists {
			if k != i && !slices.Equal(list, want[k]) {
				t.Fatal("lists share memory:", lists, want)
			}
		}
	}
}

// LANGUAGE 5: a result does not depend on the order in which maps are gone through.
func TestSameAgain(t *testing.T) {
	r := chance()
	for range 30 {
		s, _, _ := anyTrue(r, 4, 6, 5, 12)
		stakes := []radar.Tool{anyStake(r, s), anyStake(r, s), anyStake(r, s)}
		known := learnt(t, s)
		lists, e := radar.Turns(s)
		best, worst, f := radar.Best(s, stakes)
		for range 10 {
			if l := learnt(t, s); !slices.Equal(l, known) {
				t.Fatal(s, l, known)
			}
			if l, g := radar.Turns(s); !sameLists(l, lists) || g != e {
				t.Fatal(s, l, g, lists, e)
			}
			if b, w, g := radar.Best(s, stakes); b != best || w != worst || g != f {
				t.Fatal(s, stakes, b, w, g, best, worst, f)
			}
		}
	}
}

// P1: each call ends, and does not panic, also for surveys at all limits at once.
func TestLimitsAtOnce(t *testing.T) {
	s := radar.Survey{Spots: slices.Repeat([]radar.Spot{{X: to(-30, -18), Y: to(18, 30)}}, 6), Strain: 60, Day: 60}
	var stakes []radar.Tool
	for i := range 8 {
		s = with(s, radar.Tool{Spot: i % 6, A: -3, B: 3, Turn: 2, Err: 50, Drift: 3}, 1000-2000*(i%2))
		stakes = append(stakes, radar.Tool{Spot: i % 6, A: 3, B: -3, Err: 50, Drift: 3})
	}
	if l := learnt(t, s); !slices.Equal(l, s.Spots) {
		t.Error("Learn:", l)
	}
	if l, e := radar.Turns(s); len(l) != 0 || e != api.ErrLimit {
		t.Error("Turns:", l, e)
	}
	if best, worst, e := radar.Best(s, stakes); best != 0 || worst != 0 || e != api.ErrLimit {
		t.Error("Best:", best, worst, e)
	}
	if l, e := radar.Blame(s); len(l) != 0 || e != api.ErrNone {
		t.Error("Blame:", l, e)
	}
	for i := range s.Tools {
		s.Tools[i].Turn = 0
	}
	if l, e := radar.Blame(s); len(l) != 0 || e != api.ErrFail {
		t.Error("Blame of what never agrees:", l, e)
	}
	// 2 turns of each of five spots are 32 lists; the sixth spot makes them 64, or leaves them.
	deep := radar.Survey{Spots: slices.Repeat([]radar.Spot{{X: to(0, 12), Y: to(0, 12)}}, 6), Strain: 12}
	for i := range 5 {
		deep = with(deep, radar.Tool{Spot: i, A: 1, Turn: 7}, 1+i%5)
	}
	if l, e := radar.Turns(deep); len(l) != 32 || !slices.Equal(l[0], make([]int, 5)) || e != api.OK {
		t.Error("32 lists:", l, e)
	}
	sixth := with(deep, radar.Tool{Spot: 5, B: 1, Turn: 7}, 0)
	if l, e := radar.Turns(sixth); len(l) != 0 || e != api.ErrLimit {
		t.Error("64 lists:", l, e)
	}
	if best, worst, e := radar.Best(deep, []radar.Tool{{Spot: 5, A: 1}, {Spot: 4, A: 1, B: 1}, {Spot: 4, A: 1}}); best != 2 || worst != 16 || e != api.OK {
		t.Error("Best of 32 lists:", best, worst, e)
	}
}
