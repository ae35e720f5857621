package water

import (
	"iter"

	"sackung/api"
)

// river is where a cell passes on to if it is no other cell.
const river = -1

// flow is a ground on its way through days, in a truth.
type flow struct {
	Ground
	days  []Day
	truth Truth
}

type depths [api.MaxCells]int

// evening is what a day ends with: the levels, what left on the day, and the snow.
type evening struct {
	levels     depths
	left, snow int
}

func (f flow) run() []evening {
	var levels depths
	copy(levels[:], f.truth.Levels)
	var ends []evening
	for down, snow := range f.weather() {
		end := f.day(levels, down)
		end.snow = snow
		levels = end.levels
		ends = append(ends, end)
	}
	return ends
}

func (f flow) runFor(soak int) []evening {
	f.truth.Soak = soak
	return f.run()
}

// weather yields, for each day, what comes down and the snow that lies behind it.
func (f flow) weather() iter.Seq2[int, int] {
	return func(yield func(down, snow int) bool) {
		snow := f.truth.Snow
		for i, day := range f.days {
			down := 0
			if day.Warm > 0 {
				melts := min(snow, f.Melt*day.Warm)
				snow -= melts
				down = f.truth.Rain[i] + melts
			} else {
				snow += f.truth.Rain[i]
			}
			if !yield(down, snow) {
				return
			}
		}
	}
}

func (f flow) day(before depths, down int) evening {
	soaks := down * f.truth.Soak / 1000
	var after depths
	var left []int
	for i, cell := range f.Cells {
		pumped, passed := cell.gives(before[i])
		left = append(left, down-soaks, pumped)
		if cell.To == river {
			left = append(left, passed)
		} else {
			after[cell.To] += passed
		}
		after[i] += before[i] - pumped - passed + soaks
	}
	for i, cell := range f.Cells {
		over := max(after[i]-cell.Cap, 0)
		left = append(left, over)
		after[i] -= over
	}
	return evening{levels: after, left: sum(left...)}
}

func (c Cell) gives(level int) (pumped, passed int) {
	pumped = min(level, c.Pump)
	passed = max(level-pumped-c.Keep, 0) * c.Pass / 1000
	return pumped, passed
}

func sum(numbers ...int) int {
	total := 0
	for _, number := range numbers {
		total += number
	}
	return total
}
