package slope

import "sackung/api"

// shapes asks for the numbers' limits as well: only numbers within them may be added.
func (s Slope) shapes(t Table) bool {
	limits := Range{-api.MaxSum, api.MaxSum}
	return len(t) == s.Least && all(t, func(row [][]int) bool {
		return len(row) == len(s.Columns) && all(row, func(numbers []int) bool {
			return len(numbers) == len(s.Columns[0]) && all(numbers, limits.has)
		})
	})
}

// table has the greatest number that is allowed at each place: if any table proves the factor, it does.
func (l look) table() Table {
	t := make(Table, l.Least)
	for row := range l.Least {
		t[row] = make([][]int, len(l.Columns))
		for column := range len(l.Columns) {
			t[row][column] = make([]int, len(l.Columns[column]))
			for bed := range len(l.Columns[column]) {
				t[row][column][bed] = l.most(t, row, place{column, bed})
			}
		}
	}
	return t
}

func (l look) provedBy(t Table) bool {
	for row := range l.Least {
		for column := range len(l.Columns) {
			whole := row == l.Least-1 && column >= l.Least-1
			for bed, number := range t[row][column] {
				if number > l.most(t, row, place{column, bed}) || whole && number < 0 {
					return false
				}
			}
		}
	}
	return true
}

// most returns the greatest number that the rows above and the columns before allow at a place.
func (l look) most(t Table, row int, p place) int {
	cost := l.cost(p)
	var limits []int
	if row == 0 {
		limits = append(limits, cost)
	}
	if p.column == 0 {
		return least(api.MaxSum, limits...)
	}
	for bed := range following(p.bed, len(l.Columns[p.column])) {
		if row > 0 {
			limits = append(limits, cost+t[row-1][p.column-1][bed])
		}
		// The last row is for all surfaces of that many columns or more, so they may go on in it.
		if row == l.Least-1 {
			limits = append(limits, cost+t[row][p.column-1][bed])
		}
	}
	return least(api.MaxSum, limits...)
}

func least(first int, others ...int) int {
	for _, number := range others {
		first = min(first, number)
	}
	return first
}
