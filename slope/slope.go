// Package slope is layer 1: see shared/doc/01-slope.md.
package slope

import (
	"sort"

	"sackung/api"
)

// Range: see the chapter.
type Range struct{ Lo, Hi int }

// Bed: see the chapter.
type Bed struct {
	Drive, Normal             int
	Friction, Cohesion, Water Range
}

// Slope: see the chapter.
type Slope struct {
	Columns [][]Bed
	Least   int
}

// Surface: see the chapter.
type Surface struct {
	From int
	Beds []int
}

// Real: see the chapter.
type Real struct{ Friction, Cohesion, Water int }

// Table: see the chapter.
type Table = [][][]int

// CheckSlope: promise P1.1.
func CheckSlope(s Slope) api.Errno {
	if !s.valid() {
		return api.ErrArg
	}
	return api.OK
}

// Factor: promise P1.1.
func Factor(s Slope, u Surface, truth []Real) (int, api.Errno) {
	if e := checkSurface(s, u); e != api.OK {
		return 0, e
	}
	beds := s.bedsOf(u)
	if !fits(truth, beds) {
		return 0, api.ErrFail
	}
	if driveOf(beds) < 1 {
		return 0, api.ErrNone
	}
	held := 0
	for i, bed := range beds {
		held += bed.holds(truth[i])
	}
	return factorOf(held, driveOf(beds)), api.OK
}

// Span: promise P1.2.
func Span(s Slope, u Surface) (Range, api.Errno) {
	if e := checkSurface(s, u); e != api.OK {
		return Range{}, e
	}
	beds := s.bedsOf(u)
	if driveOf(beds) < 1 {
		return Range{}, api.ErrNone
	}
	least, greatest := 0, 0
	for _, bed := range beds {
		least += bed.holds(bed.weakest())
		greatest += bed.holds(bed.strongest())
	}
	return Range{factorOf(least, driveOf(beds)), factorOf(greatest, driveOf(beds))}, api.OK
}

// Worst: promise P1.3.
func Worst(s Slope) (Surface, int, api.Errno) {
	if e := CheckSlope(s); e != api.OK {
		return Surface{}, 0, e
	}
	// If no surface is below any factor, those that drive have MaxFactor, and one of them is asked for by what drives it alone.
	price := look{Slope: s}.lift
	above := sort.Search(api.MaxFactor+1, s.fallsBelow)
	if above <= api.MaxFactor {
		price = look{s, above, Bed.weakest}.cost
	}
	u, found := s.find(price)
	if !found {
		return Surface{}, 0, api.ErrNone
	}
	return u, above - 1, api.OK
}

// Proof: promise P1.4.
func Proof(s Slope, factor int) (Table, api.Errno) {
	if e := checkReached(s, factor); e != api.OK {
		return nil, e
	}
	return look{s, factor, Bed.weakest}.table(), api.OK
}

// ProveLeast: promise P1.4.
func ProveLeast(s Slope, factor int, t Table) bool {
	if checkFactor(s, factor) != api.OK || !s.shapes(t) {
		return false
	}
	return look{s, factor, Bed.weakest}.provedBy(t)
}

// Margin: promise P1.5.
func Margin(s Slope, factor int) (int, api.Errno) {
	if e := checkReached(s, factor); e != api.OK {
		return 0, e
	}
	// More water never makes a factor greater, so the first addition that is too much comes behind the margin.
	tooMuchBehind := func(water int) bool { return s.wetter(water + 1).fallsBelow(factor) }
	return sort.Search(api.MaxForce, tooMuchBehind), api.OK
}

// Moves: promise P1.6.
func Moves(s Slope, factor int) (surely, perhaps []int, e api.Errno) {
	if e := checkFactor(s, factor); e != api.OK {
		return nil, nil, e
	}
	surely = s.below(look{s, factor, Bed.strongest}.cost)
	perhaps = s.below(look{s, factor, Bed.weakest}.cost)
	return surely, perhaps, api.OK
}
