package alarm

import "math"

// endless hours are left where the speed does not grow.
const endless = math.MaxInt

// signal is a level, and whether the hours that are left ask for it.
type signal struct {
	level uint8
	asked func(left int) bool
}

// signals are in the order in which they are asked.
func (p Post) signals() []signal {
	within := func(hours int) func(left int) bool {
		return func(left int) bool { return left <= hours }
	}
	return []signal{{Call, within(p.Out)}, {Ready, within(p.Out + p.Ahead)}, {Watch, within(p.Out + 2*p.Ahead)}}
}

func (p Post) level(greatest int) uint8 {
	left := p.left(greatest)
	for _, s := range p.signals() {
		if s.asked(left) {
			return s.level
		}
	}
	return Rest
}

// left returns the hours that are left at a speed.
func (p Post) left(speed int) int {
	if speed >= p.Fall {
		return 0
	}
	if p.Gain == 0 {
		return endless
	}
	return (p.Fall - speed + p.Gain - 1) / p.Gain
}
