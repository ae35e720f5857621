package annals

import (
	"iter"
	"slices"

	"sackung/api"
)

func (a Annals) statements() int { return len(a.Reports) + len(a.Claims) }

func (a Annals) with(more ...Claim) Annals {
	a.Claims = slices.Concat(a.Claims, more)
	return a
}

func (a Annals) without(statements []int) Annals {
	left := Annals{Reports: slices.Clone(a.Reports), Rest: a.Rest}
	for report := range left.Reports {
		if slices.Contains(statements, report) {
			left.Reports[report].When = allDays()
		}
	}
	for i, x := range a.Claims {
		if !slices.Contains(statements, len(a.Reports)+i) {
			left.Claims = append(left.Claims, x)
		}
	}
	return left
}

// wrong returns what must be wrong: at the latest all statements, as nothing stands against one slide for each slope then.
func (a Annals) wrong() []int {
	for fewer := range a.statements() {
		for statements := range lists(a.statements(), fewer+1) {
			if a.without(statements).canBe() {
				return statements
			}
		}
	}
	return nil
}

// lists yields the rising lists of so many indexes, the least one first.
func lists(indexes, size int) iter.Seq[[]int] {
	return func(yield func([]int) bool) {
		var grow func(list []int, from int) bool
		grow = func(list []int, from int) bool {
			if len(list) == size {
				return yield(slices.Clone(list))
			}
			for next := from; next < indexes; next++ {
				if !grow(append(list, next), next+1) {
					return false
				}
			}
			return true
		}
		grow(nil, 0)
	}
}

// mirrored are the annals with the days counted back from the last one.
func (a Annals) mirrored() Annals {
	m := Annals{Rest: a.Rest}
	for _, r := range a.Reports {
		m.Reports = append(m.Reports, Report{r.Slope, Range{mirroredDay(r.When.Hi), mirroredDay(r.When.Lo)}})
	}
	for _, x := range a.Claims {
		// Before turns round; Same and Other say as much of B and A.
		m.Claims = append(m.Claims, Claim{x.Kind, x.B, x.A})
	}
	return m
}

func mirroredDay(day int) int { return api.MaxEpoch - day }
