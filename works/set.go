package works

import (
	"cmp"
	"math/bits"
	"slices"

	"sackung/api"
)

// set is a set of works, or of villages, with a bit for each.
type set uint

func just(member int) set { return 1 << member }

func (s set) without(member int) set { return s &^ just(member) }

func (s set) first() int { return bits.TrailingZeros(uint(s)) }

func (s set) members() []int {
	var list []int
	for ; s != 0; s = s.without(s.first()) {
		list = append(list, s.first())
	}
	return list
}

// sets has all sets of so many, the empty one first.
func sets(many int) []set {
	var list []set
	for s := range just(many) {
		list = append(list, s)
	}
	return list
}

// fewest puts the set with fewer members first, and of as many the one with the least list.
func fewest(a, b set) int {
	x, y := a.members(), b.members()
	return cmp.Or(cmp.Compare(len(x), len(y)), slices.Compare(x, y))
}

func built(plan []int) set { return builtBy(plan, api.MaxYears) }

func builtBy(plan []int, year int) set {
	var works set
	for work, when := range plan {
		if when != never && when <= year {
			works |= just(work)
		}
	}
	return works
}
