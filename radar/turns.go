package radar

import (
	"iter"
	"math"
	"slices"

	"sackung/api"
)

// turned is a look at the fields that have a list of whole turns.
type turned struct {
	look
	list []int
}

func (s Survey) allTurned() ([]turned, api.Errno) {
	l := s.look()
	if !l.possible() {
		return nil, api.ErrFail
	}
	var found []turned
	for x := range l.turned() {
		if len(found) == api.MaxLists {
			return nil, api.ErrLimit
		}
		found = append(found, x)
	}
	return found, api.OK
}

// turned yields all whole turns that are possible, the least ones first.
func (l look) turned() iter.Seq[turned] {
	return func(yield func(turned) bool) {
		var follow func(l look, tool int, list []int) bool
		follow = func(l look, tool int, list []int) bool {
			if tool == len(l.Tools) {
				return yield(turned{l, slices.Clone(list)})
			}
			if l.Tools[tool].Turn == 0 {
				return follow(l, tool+1, list)
			}
			numbers := l.numbers(tool)
			for n := numbers.Lo; n <= numbers.Hi; n++ {
				next := l.with(tool, n)
				if next.possible() && !follow(next, tool+1, append(list, n)) {
					return false
				}
			}
			return true
		}
		follow(l, 0, nil)
	}
}

// numbers returns the range of the numbers of turns by which a tool agrees with what is left; it need not agree by all between the ends.
func (l look) numbers(tool int) Range {
	found := noEnds()
	for m := range l.left[l.Tools[tool].Spot] {
		turns := l.turns(tool, m)
		found = found.with(turns.Lo, turns.Hi)
	}
	return found.span()
}

// mostLeft returns the worst of a stake, counting for each read the lists with which it may come.
func mostLeft(possible []turned, stake Tool) int {
	most, lists := 0, map[int]int{}
	for _, x := range possible {
		for read := range x.reads(stake) {
			lists[read]++
			most = max(most, lists[read])
		}
	}
	return most
}

// reads yields the reads of a stake that may come, each once.
func (l look) reads(stake Tool) iter.Seq[int] {
	return func(yield func(int) bool) {
		off, next := l.off(stake), math.MinInt
		for _, sight := range l.left[stake.Spot].seen(stake, Tool.sight) {
			for read := max(next, sight-off); read <= sight+off; read++ {
				if !yield(read) {
					return
				}
			}
			next = sight + off + 1
		}
	}
}
