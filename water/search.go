package water

import (
	"slices"
	"sort"
)

// choice says which number of each range is the true one.
type choice struct{ of func(Range) int }

func (r Range) low() int { return r.Lo }

func (r Range) high() int { return r.Hi }

func (c choice) run(g Ground, days []Day) []evening { return c.flow(g, days).run() }

func (c choice) flow(g Ground, days []Day) flow {
	return flow{g, days, Truth{
		Snow:   c.of(g.Snow),
		Soak:   c.of(g.Soak),
		Levels: each(each(g.Cells, Cell.level), c.of),
		Rain:   each(each(days, Day.rain), c.of),
	}}
}

// spans reckons with the truths at the ends alone: more of anything never makes less of a level, or of the snow.
func spans(g Ground, days []Day) (levels [][]Range, snow []Range) {
	low, high := choice{Range.low}.run(g, days), choice{Range.high}.run(g, days)
	for day := range days {
		var cells []Range
		for cell := range g.Cells {
			cells = append(cells, Range{low[day].levels[cell], high[day].levels[cell]})
		}
		levels = append(levels, cells)
		snow = append(snow, Range{low[day].snow, high[day].snow})
	}
	return levels, snow
}

func firstDays(levels [][]Range, cell, level int) (perhaps, surely int) {
	perhaps, surely = -1, -1
search:
	for day, cells := range levels {
		switch {
		case level <= cells[cell].Lo:
			surely = day
			break search
		case level <= cells[cell].Hi && perhaps == -1:
			perhaps = day
		}
	}
	if perhaps == -1 {
		perhaps = surely
	}
	return perhaps, surely
}

func (g Ground) withPump(cell, pump int) Ground {
	g.Cells = slices.Clone(g.Cells)
	g.Cells[cell].Pump = pump
	return g
}

func (g Ground) keeps(days []Day, cell, level int) bool {
	return all(choice{Range.high}.run(g, days), func(end evening) bool { return end.levels[cell] <= level })
}

// well is where and when a level was read.
type well struct{ cell, day int }

type wells map[well]Range

func wellsOf(l []Reading) wells {
	w := wells{}
	for _, x := range l {
		at := well{x.Cell, x.Day}
		r, known := w[at]
		if !known {
			r = x.Level
		}
		w[at] = Range{max(r.Lo, x.Level.Lo), min(r.Hi, x.Level.Hi)}
	}
	return w
}

func (w wells) misread(ends []evening) (below, above bool) {
	for at, r := range w {
		level := ends[at.day].levels[at.cell]
		below = below || level < r.Lo
		above = above || level > r.Hi
	}
	return below, above
}

// agreeing returns a range with its Lo above its Hi if no soak agrees. Levels grow with the soak: too low ones end at some soak, and too high ones begin at one.
func agreeing(g Ground, days []Day, w wells) Range {
	run := choice{Range.low}.flow(g, days).runFor
	enough := func(soak int) bool {
		below, _ := w.misread(run(soak))
		return !below
	}
	tooMuch := func(soak int) bool {
		_, above := w.misread(run(soak))
		return above
	}
	return Range{least(g.Soak, enough), least(g.Soak, tooMuch) - 1}
}

// least returns the least number of a range for which something holds that holds for all behind it, too; if it holds for none, the number behind the range.
func least(r Range, holds func(int) bool) int {
	return r.Lo + sort.Search(r.Hi-r.Lo+1, func(n int) bool { return holds(r.Lo + n) })
}
