package water

import "sackung/api"

func checkDays(g Ground, days []Day) api.Errno {
	if e := CheckGround(g); e != api.OK {
		return e
	}
	if len(days) > api.MaxDays {
		return api.ErrLimit
	}
	if !all(days, Day.valid) {
		return api.ErrArg
	}
	return api.OK
}

func checkTruth(g Ground, days []Day, truth Truth) api.Errno {
	if e := checkDays(g, days); e != api.OK {
		return e
	}
	if !g.Snow.has(truth.Snow) || !g.Soak.has(truth.Soak) ||
		!fits(truth.Levels, each(g.Cells, Cell.level)) || !fits(truth.Rain, each(days, Day.rain)) {
		return api.ErrFail
	}
	return api.OK
}

func checkLevel(g Ground, days []Day, cell, level int) api.Errno {
	if e := checkDays(g, days); e != api.OK {
		return e
	}
	if !indexes(g.Cells).has(cell) || !(Range{0, api.MaxDepth}).has(level) {
		return api.ErrRange
	}
	return api.OK
}

func checkReadings(g Ground, days []Day, l []Reading) api.Errno {
	if e := checkDays(g, days); e != api.OK {
		return e
	}
	if len(l) > api.MaxReadings {
		return api.ErrLimit
	}
	there := func(x Reading) bool {
		return indexes(g.Cells).has(x.Cell) && indexes(days).has(x.Day) && x.Level.within(api.MaxDepth)
	}
	if !all(l, there) {
		return api.ErrRange
	}
	if !g.Snow.known() || !all(each(g.Cells, Cell.level), Range.known) || !all(each(days, Day.rain), Range.known) {
		return api.ErrState
	}
	return api.OK
}

func (g Ground) valid() bool {
	if !(Range{1, api.MaxCells}).has(len(g.Cells)) || !all(g.Cells, Cell.valid) {
		return false
	}
	for i, cell := range g.Cells {
		if cell.To != river && !indexes(g.Cells).has(cell.To) || cell.To == i {
			return false
		}
	}
	return g.Snow.within(api.MaxDepth) && g.Soak.within(1000) && Range{0, api.MaxMelt}.has(g.Melt)
}

func (c Cell) valid() bool {
	return Range{1, api.MaxDepth}.has(c.Cap) && c.Level.within(c.Cap) && Range{0, c.Cap}.has(c.Keep) &&
		Range{0, 1000}.has(c.Pass) && Range{0, api.MaxDepth}.has(c.Pump)
}

func (d Day) valid() bool {
	return d.Rain.within(api.MaxRain) && Range{-api.MaxWarm, api.MaxWarm}.has(d.Warm)
}

func (c Cell) level() Range { return c.Level }

func (d Day) rain() Range { return d.Rain }

func (r Range) has(number int) bool { return r.Lo <= number && number <= r.Hi }

func (r Range) within(limit int) bool { return 0 <= r.Lo && r.Lo <= r.Hi && r.Hi <= limit }

func (r Range) known() bool { return r.Lo == r.Hi }

func indexes[T any](list []T) Range { return Range{0, len(list) - 1} }

func fits(numbers []int, ranges []Range) bool {
	if len(numbers) != len(ranges) {
		return false
	}
	for i, r := range ranges {
		if !r.has(numbers[i]) {
			return false
		}
	}
	return true
}

func all[T any](list []T, good func(T) bool) bool {
	for _, x := range list {
		if !good(x) {
			return false
		}
	}
	return true
}

func each[T, U any](list []T, of func(T) U) []U {
	var out []U
	for _, x := range list {
		out = append(out, of(x))
	}
	return out
}
