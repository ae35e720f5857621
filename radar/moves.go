package radar

import (
	"iter"
	"maps"
	"math"
	"slices"
)

// moves are movements that a spot may have.
type moves map[Move]bool

func (m moves) has(x Move) bool { return m[x] }

func (m moves) kept(good func(Move) bool) moves {
	kept := moves{}
	for x := range m {
		if good(x) {
			kept[x] = true
		}
	}
	return kept
}

func (m moves) span() Spot {
	x, y := noEnds(), noEnds()
	for move := range m {
		x, y = x.with(move.X), y.with(move.Y)
	}
	return Spot{x.span(), y.span()}
}

// seen returns what a tool sees of the movements, rising, each number once.
func (m moves) seen(t Tool, sight func(Tool, Move) int) []int {
	numbers := map[int]bool{}
	for x := range m {
		numbers[sight(t, x)] = true
	}
	return slices.Sorted(maps.Keys(numbers))
}

// ends are the least and the greatest of some numbers.
type ends [2]int

func noEnds() ends { return ends{math.MaxInt, math.MinInt} }

func (e ends) with(numbers ...int) ends {
	for _, n := range numbers {
		e = ends{min(e[0], n), max(e[1], n)}
	}
	return e
}

func (e ends) span() Range { return Range{e[0], e[1]} }

func (p Spot) has(m Move) bool { return p.X.has(m.X) && p.Y.has(m.Y) }

func (p Spot) moves() iter.Seq[Move] {
	return func(yield func(Move) bool) {
		for x := p.X.Lo; x <= p.X.Hi; x++ {
			for y := p.Y.Lo; y <= p.Y.Hi; y++ {
				if !yield(Move{x, y}) {
					return
				}
			}
		}
	}
}

func (r Range) around(number, strain int) Range {
	return Range{max(r.Lo, number-strain), min(r.Hi, number+strain)}
}
