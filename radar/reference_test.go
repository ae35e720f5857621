package radar_test

import (
	"math/rand"
	"slices"

	"sackung/radar"
)

func to(low, high int) radar.Range { return radar.Range{Lo: low, Hi: high} }

func just(number int) radar.Range { return to(number, number) }

// ridge is the survey of the chapter's examples.
func ridge() radar.Survey {
	return radar.Survey{
		Spots: []radar.Spot{{X: to(0, 6), Y: to(0, 6)}, {X: to(0, 6), Y: to(0, 6)}}, Strain: 1, Day: 10,
		Tools: []radar.Tool{{Spot: 0, A: 1, Turn: 4}, {Spot: 1, A: 1, B: 1, Err: 1}}, Reads: []int{1, 11},
	}
}

func strained(s radar.Survey, strain int) radar.Survey {
	s.Strain = strain
	return s
}

// bare has spots that move along X alone, by 0 to 10, and no tools.
func bare(spots int) radar.Survey {
	return radar.Survey{Spots: slices.Repeat([]radar.Spot{{X: to(0, 10)}}, spots), Day: 10}
}

func copied(s radar.Survey) radar.Survey {
	s.Spots, s.Tools, s.Reads = slices.Clone(s.Spots), slices.Clone(s.Tools), slices.Clone(s.Reads)
	return s
}

func with(s radar.Survey, t radar.Tool, read int) radar.Survey {
	s = copied(s)
	s.Tools, s.Reads = append(s.Tools, t), append(s.Reads, read)
	return s
}

func without(s radar.Survey, tool int) radar.Survey {
	s = copied(s)
	s.Tools, s.Reads = slices.Delete(s.Tools, tool, tool+1), slices.Delete(s.Reads, tool, tool+1)
	return s
}

func sightOf(t radar.Tool, m radar.Move) int { return t.A*m.X + t.B*m.Y }

func apart(a, b int) int {
	if a < b {
		return b - a
	}
	return a - b
}

// offOf adds the drift day by day.
func offOf(s radar.Survey, t radar.Tool) int {
	off := t.Err
	for range s.Day - t.Since {
		off += t.Drift
	}
	return off
}

// numbersOf tries all numbers of turns by which a tool might agree.
func numbersOf(s radar.Survey, tool int, m radar.Move) []int {
	t := s.Tools[tool]
	most := 0
	if t.Turn > 0 {
		most = 1500/t.Turn + 1
	}
	var l []int
	for n := -most; n <= most; n++ {
		if apart(sightOf(t, m), s.Reads[tool]+t.Turn*n) <= offOf(s, t) {
			l = append(l, n)
		}
	}
	return l
}

// fact is a field that agrees, with the numbers of turns by which each tool does.
type fact struct {
	field   []radar.Move
	numbers [][]int
}

// factsOf goes through all fields of a small survey.
func factsOf(s radar.Survey) []fact {
	var facts []fact
	var extend func(field []radar.Move)
	extend = func(field []radar.Move) {
		if len(field) == len(s.Spots) {
			if f, agrees := factOf(s, field); agrees {
				facts = append(facts, f)
			}
			return
		}
		p := s.Spots[len(field)]
		for x := p.X.Lo; x <= p.X.Hi; x++ {
			for y := p.Y.Lo; y <= p.Y.Hi; y++ {
				extend(append(slices.Clone(field), radar.Move{X: x, Y: y}))
			}
		}
	}
	extend(nil)
	return facts
}

func factOf(s radar.Survey, field []radar.Move) (f fact, agrees bool) {
	f.field = field
	for i := 1; i < len(field); i++ {
		if apart(field[i].X, field[i-1].X) > s.Strain || apart(field[i].Y, field[i-1].Y) > s.Strain {
			return f, false
		}
	}
	for tool, t := range s.Tools {
		numbers := numbersOf(s, tool, field[t.Spot])
		if len(numbers) == 0 {
			return f, false
		}
		f.numbers = append(f.numbers, numbers)
	}
	return f, true
}

func knownOf(s radar.Survey, facts []fact) []radar.Spot {
	var known []radar.Spot
	for i := range s.Spots {
		m := facts[0].field[i]
		p := radar.Spot{X: just(m.X), Y: just(m.Y)}
		for _, f := range facts {
			m := f.field[i]
			p = radar.Spot{X: to(min(p.X.Lo, m.X), max(p.X.Hi, m.X)), Y: to(min(p.Y.Lo, m.Y), max(p.Y.Hi, m.Y))}
		}
		known = append(known, p)
	}
	return known
}

// listsOf has the whole turns of all facts, in order; it may end with more than 60.
func listsOf(s radar.Survey, facts []fact) [][]int {
	found := map[[8]int]bool{}
	var turning []int
	for tool, t := range s.Tools {
		if t.Turn != 0 {
			turning = append(turning, tool)
		}
	}
	var extend func(f fact, list [8]int, n int)
	extend = func(f fact, list [8]int, n int) {
		if n == len(turning) {
			found[list] = true
			return
		}
		for _, list[n] = range f.numbers[turning[n]] {
			if len(found) <= 60 {
				extend(f, list, n+1)
			}
		}
	}
	for _, f := range facts {
		extend(f, [8]int{}, 0)
	}
	var lists [][]int
	for list := range found {
		lists = append(lists, slices.Clone(list[:len(turning)]))
	}
	slices.SortFunc(lists, slices.Compare)
	return lists
}

// worstOf asks each read, near enough to come, how many lists it leaves.
func worstOf(s radar.Survey, facts []fact, stake radar.Tool) int {
	worst := 0
	for read := -420; read <= 420; read++ {
		var near []fact
		for _, f := range facts {
			if apart(read, sightOf(stake, f.field[stake.Spot])) <= offOf(s, stake) {
				near = append(near, f)
			}
		}
		worst = max(worst, len(listsOf(s, near)))
	}
	return worst
}

// chance makes the same surveys in each run, as its seed is fixed.
func chance() *rand.Rand { return rand.New(rand.NewSource(20261120)) }

func anyIn(r *rand.Rand, x radar.Range) int { return x.Lo + r.Intn(x.Hi-x.Lo+1) }

func anyRange(r *rand.Rand, span int) radar.Range {
	low := r.Intn(61-span) - 30
	return to(low, low+r.Intn(span+1))
}

// anyTool sees a spot of a survey; its turn is up to a most.
func anyTool(r *rand.Rand, s radar.Survey, turn int) radar.Tool {
	t := anyStake(r, s)
	if r.Intn(3) > 0 {
		t.Turn = 2 + r.Intn(turn-1)
	}
	return t
}

func anyStake(r *rand.Rand, s radar.Survey) radar.Tool {
	t := radar.Tool{Spot: r.Intn(len(s.Spots)), A: r.Intn(7) - 3, B: r.Intn(7) - 3, Err: r.Intn(3), Drift: r.Intn(4) / 3, Since: anyIn(r, to(max(0, s.Day-3), s.Day))}
	if t.A == 0 && t.B == 0 {
		t.A = 1
	}
	return t
}

// anyRow has spots alone, and a field of them that Strain allows.
func anyRow(r *rand.Rand, spots, span int) (radar.Survey, []radar.Move) {
	s := radar.Survey{Day: r.Intn(61), Strain: r.Intn(3)}
	var field []radar.Move
	for i := range spots {
		p := radar.Spot{X: anyRange(r, span), Y: anyRange(r, span)}
		if i > 0 {
			// The spots move much alike, so that Strain may bind them.
			p = radar.Spot{X: beside(r, s.Spots[0].X), Y: beside(r, s.Spots[0].Y)}
		}
		m := radar.Move{X: anyIn(r, p.X), Y: anyIn(r, p.Y)}
		if i > 0 {
			m = radar.Move{X: nearest(p.X, field[i-1].X), Y: nearest(p.Y, field[i-1].Y)}
			s.Strain = max(s.Strain, apart(m.X, field[i-1].X), apart(m.Y, field[i-1].Y))
		}
		s.Spots, field = append(s.Spots, p), append(field, m)
	}
	return s, field
}

func beside(r *rand.Rand, x radar.Range) radar.Range {
	return to(max(-30, x.Lo-r.Intn(2)), min(30, x.Hi+r.Intn(2), max(-30, x.Lo-1)+12))
}

func nearest(x radar.Range, number int) int { return min(max(number, x.Lo), x.Hi) }

// anyTrue is a survey with a field that agrees with it, and with its number of turns for each tool that has a turn.
func anyTrue(r *rand.Rand, spots, span, tools, turn int) (s radar.Survey, field []radar.Move, turns []int) {
	s, field = anyRow(r, spots, span)
	for range tools {
		t := anyTool(r, s, turn)
		n := r.Intn(5) - 2
		if t.Turn > 0 {
			turns = append(turns, n)
		}
		s = with(s, t, sightOf(t, field[t.Spot])+anyIn(r, to(-offOf(s, t), offOf(s, t)))-t.Turn*n)
	}
	return s, field, turns
}

// smallSurvey is one whose fields can be gone through; half of them have wrong reads, and some a tool that is off by much.
func smallSurvey(r *rand.Rand) radar.Survey {
	s, _, _ := anyTrue(r, 1+r.Intn(3), 2, r.Intn(5), 9)
	if len(s.Tools) == 0 {
		return s
	}
	if r.Intn(6) == 0 {
		s.Tools[0].Err = r.Intn(51)
	}
	if r.Intn(2) == 0 {
		for range 1 + r.Intn(3) {
			s.Reads[r.Intn(len(s.Reads))] += r.Intn(25) - 12
		}
	}
	return s
}
