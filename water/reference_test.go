package water_test

import (
	"math/rand"
	"slices"

	"sackung/water"
)

func to(low, high int) water.Range { return water.Range{Lo: low, Hi: high} }

func just(number int) water.Range { return to(number, number) }

// bank is the ground of the chapter's examples, and march are its days.
func bank() water.Ground {
	return water.Ground{Snow: to(20, 30), Soak: to(500, 600), Melt: 4, Cells: []water.Cell{
		{Level: to(100, 120), Cap: 400, Keep: 50, Pass: 200, To: 1},
		{Level: just(60), Cap: 150, Pass: 500, To: -1, Pump: 10},
	}}
}

func march() []water.Day {
	return []water.Day{{Rain: to(10, 20), Warm: -2}, {Rain: to(40, 60), Warm: 5}, {Rain: to(0, 10), Warm: 1}}
}

func broken() water.Ground {
	g := bank()
	g.Cells[1].Pass = -1
	return g
}

// pools are cells that pass on nothing.
func pools(cells int) water.Ground {
	return water.Ground{Cells: slices.Repeat([]water.Cell{{Cap: 100, To: -1}}, cells)}
}

func read(cell, day, low, high int) water.Reading {
	return water.Reading{Cell: cell, Day: day, Level: to(low, high)}
}

func copied(g water.Ground) water.Ground {
	g.Cells = slices.Clone(g.Cells)
	return g
}

func copiedTruth(x water.Truth) water.Truth {
	x.Levels, x.Rain = slices.Clone(x.Levels), slices.Clone(x.Rain)
	return x
}

func pumping(g water.Ground, cell, pump int) water.Ground {
	g = copied(g)
	g.Cells[cell].Pump = pump
	return g
}

// evening is what a day leaves behind.
type evening struct {
	levels     []int
	left, snow int
}

// reckoned follows the chapter's four steps, from the side of the cells that get water.
func reckoned(g water.Ground, days []water.Day, truth water.Truth) []evening {
	var ends []evening
	levels, snow := truth.Levels, truth.Snow
	for d, day := range days {
		down := 0
		if day.Warm <= 0 {
			snow += truth.Rain[d]
		} else {
			melts := g.Melt * day.Warm
			if melts > snow {
				melts = snow
			}
			snow -= melts
			down = truth.Rain[d] + melts
		}
		part := down * truth.Soak / 1000
		left := (down - part) * len(g.Cells)
		pumped, passed := make([]int, len(g.Cells)), make([]int, len(g.Cells))
		for i, c := range g.Cells {
			pumped[i] = c.Pump
			if c.Pump > levels[i] {
				pumped[i] = levels[i]
			}
			if rest := levels[i] - pumped[i]; rest > c.Keep {
				passed[i] = (rest - c.Keep) * c.Pass / 1000
			}
			left += pumped[i]
			if c.To < 0 {
				left += passed[i]
			}
		}
		next := make([]int, len(g.Cells))
		for i, c := range g.Cells {
			next[i] = levels[i] - pumped[i] - passed[i] + part
			for k, from := range g.Cells {
				if from.To == i {
					next[i] += passed[k]
				}
			}
			if next[i] > c.Cap {
				left += next[i] - c.Cap
				next[i] = c.Cap
			}
		}
		levels = next
		ends = append(ends, evening{next, left, snow})
	}
	return ends
}

// chosen is the truth that has of each range what is picked.
func chosen(g water.Ground, days []water.Day, pick func(water.Range) int) water.Truth {
	x := water.Truth{Snow: pick(g.Snow), Soak: pick(g.Soak)}
	for _, c := range g.Cells {
		x.Levels = append(x.Levels, pick(c.Level))
	}
	for _, d := range days {
		x.Rain = append(x.Rain, pick(d.Rain))
	}
	return x
}

func lowest(g water.Ground, days []water.Day) water.Truth {
	return chosen(g, days, func(x water.Range) int { return x.Lo })
}

func highest(g water.Ground, days []water.Day) water.Truth {
	return chosen(g, days, func(x water.Range) int { return x.Hi })
}

func anyTruth(r *rand.Rand, g water.Ground, days []water.Day) water.Truth {
	return chosen(g, days, func(x water.Range) int { return anyIn(r, x) })
}

// truthsOf has all truths, one after the other.
func truthsOf(g water.Ground, days []water.Day) []water.Truth {
	list := []water.Truth{{}}
	extend := func(x water.Range, set func(truth *water.Truth, number int)) {
		var longer []water.Truth
		for _, truth := range list {
			for number := x.Lo; number <= x.Hi; number++ {
				next := copiedTruth(truth)
				set(&next, number)
				longer = append(longer, next)
			}
		}
		list = longer
	}
	extend(g.Snow, func(truth *water.Truth, number int) { truth.Snow = number })
	extend(g.Soak, func(truth *water.Truth, number int) { truth.Soak = number })
	for _, c := range g.Cells {
		extend(c.Level, func(truth *water.Truth, number int) { truth.Levels = append(truth.Levels, number) })
	}
	for _, d := range days {
		extend(d.Rain, func(truth *water.Truth, number int) { truth.Rain = append(truth.Rain, number) })
	}
	return list
}

// spansOf has the ranges of the levels and of the snow, by all truths.
func spansOf(g water.Ground, days []water.Day) (levels [][]water.Range, snow []water.Range) {
	for n, truth := range truthsOf(g, days) {
		for d, end := range reckoned(g, days, truth) {
			if n == 0 {
				snow = append(snow, just(end.snow))
				levels = append(levels, nil)
			}
			snow[d] = wider(snow[d], end.snow)
			for i, level := range end.levels {
				if n == 0 {
					levels[d] = append(levels[d], just(level))
				}
				levels[d][i] = wider(levels[d][i], level)
			}
		}
	}
	return levels, snow
}

func wider(x water.Range, number int) water.Range { return to(min(x.Lo, number), max(x.Hi, number)) }

// agrees tells whether a soak agrees with readings, where no other range has more than one number.
func agrees(g water.Ground, days []water.Day, soak int, l []water.Reading) bool {
	truth := lowest(g, days)
	truth.Soak = soak
	ends := reckoned(g, days, truth)
	return !slices.ContainsFunc(l, func(x water.Reading) bool {
		level := ends[x.Day].levels[x.Cell]
		return level < x.Level.Lo || level > x.Level.Hi
	})
}

// soaksOf has all soaks that agree with readings.
func soaksOf(g water.Ground, days []water.Day, l []water.Reading) []int {
	var list []int
	for soak := g.Soak.Lo; soak <= g.Soak.Hi; soak++ {
		if agrees(g, days, soak, l) {
			list = append(list, soak)
		}
	}
	return list
}

// keeps tells whether a pump keeps a cell at a level, asked of the truth with the most of everything.
func keeps(g water.Ground, days []water.Day, cell, pump, level int) bool {
	g = pumping(g, cell, pump)
	return !slices.ContainsFunc(reckoned(g, days, highest(g, days)), func(end evening) bool { return end.levels[cell] > level })
}

// pumpOf is the least pump, or -1 if none is enough; a pump that is greater than the cap takes no more than one of the cap.
func pumpOf(g water.Ground, days []water.Day, cell, level int) int {
	for pump := 0; pump <= g.Cells[cell].Cap; pump++ {
		if keeps(g, days, cell, pump, level) {
			return pump
		}
	}
	return -1
}

// chance makes the same grounds in each run, as its seed is fixed.
func chance() *rand.Rand { return rand.New(rand.NewSource(20261120)) }

func anyIn(r *rand.Rand, x water.Range) int { return x.Lo + r.Intn(x.Hi-x.Lo+1) }

func anyRange(r *rand.Rand, limit int) water.Range {
	a, b := r.Intn(limit+1), r.Intn(limit+1)
	return to(min(a, b), max(a, b))
}

func narrow(r *rand.Rand, limit int) water.Range {
	low := r.Intn(limit)
	return to(low, low+r.Intn(2))
}

// anyGround has ranges made by the function span.
func anyGround(r *rand.Rand, cells int, span func(r *rand.Rand, limit int) water.Range) water.Ground {
	g := water.Ground{Snow: span(r, 30), Soak: span(r, 1000), Melt: r.Intn(6)}
	for i := range cells {
		c := water.Cell{Cap: 1 + r.Intn(80), Pass: []int{0, 1000, r.Intn(1001), r.Intn(1001)}[r.Intn(4)], To: r.Intn(cells+1) - 1, Pump: max(r.Intn(40)-20, 0)}
		c.Level, c.Keep = span(r, c.Cap), r.Intn(c.Cap+1)
		if c.To == i {
			c.To = -1
		}
		g.Cells = append(g.Cells, c)
	}
	return g
}

func anyDays(r *rand.Rand, days int, span func(r *rand.Rand, limit int) water.Range) []water.Day {
	var list []water.Day
	for range days {
		list = append(list, water.Day{Rain: span(r, 40), Warm: r.Intn(9) - 3})
	}
	return list
}

func someGround(r *rand.Rand) (water.Ground, []water.Day) {
	return anyGround(r, 1+r.Intn(5), anyRange), anyDays(r, r.Intn(8), anyRange)
}

// sureGround is one of which nothing but the soak is not known.
func sureGround(r *rand.Rand) (water.Ground, []water.Day) {
	sure := func(r *rand.Rand, limit int) water.Range { return just(r.Intn(limit + 1)) }
	g, days := anyGround(r, 1+r.Intn(4), sure), anyDays(r, 1+r.Intn(5), sure)
	g.Soak = anyRange(r, 1000)
	return g, days
}

// readingsOf are readings that are met by what a soak makes, with the width at most to each side.
func readingsOf(r *rand.Rand, g water.Ground, days []water.Day, soak, width int) []water.Reading {
	truth := lowest(g, days)
	truth.Soak = soak
	ends := reckoned(g, days, truth)
	var l []water.Reading
	for range r.Intn(5) {
		cell, day := r.Intn(len(g.Cells)), r.Intn(len(days))
		level := ends[day].levels[cell]
		l = append(l, read(cell, day, max(level-r.Intn(width+1), 0), level+r.Intn(width+1)))
	}
	return l
}
