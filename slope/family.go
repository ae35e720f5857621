package slope

import "iter"

type place struct{ column, bed int }

// look is a slope that is looked at for a factor, in one truth of each bed.
type look struct {
	Slope
	factor int
	truth  func(Bed) Real
}

// cost is below 0 in sum just on surfaces whose factor is below the one looked for: what holds is never below 0, so they drive.
func (l look) cost(p place) int {
	bed := l.Columns[p.column][p.bed]
	return 1000*bed.holds(l.truth(bed)) - l.factor*bed.Drive
}

// lift is below 0 in sum just on surfaces that drive.
func (l look) lift(p place) int { return -l.Columns[p.column][p.bed].Drive }

// following yields the beds that may follow a bed; they are also those that it may follow.
func following(bed, beds int) iter.Seq[int] {
	return func(yield func(int) bool) {
		for next := max(bed-1, 0); next <= min(bed+1, beds-1); next++ {
			if !yield(next) {
				return
			}
		}
	}
}

// starts yields the places where a surface that ends in the last column may begin.
func (s Slope) starts(last int) iter.Seq[place] {
	return func(yield func(place) bool) {
		for column := range last - s.Least + 2 {
			for bed := range len(s.Columns[column]) {
				if !yield(place{column, bed}) {
					return
				}
			}
		}
	}
}

// sumsTo has the least sum of prices of the beds from each place to the last column.
func (s Slope) sumsTo(last int, price func(place) int) map[place]int {
	sums := map[place]int{}
	for column := last; column >= 0; column-- {
		for bed := range len(s.Columns[column]) {
			p := place{column, bed}
			sums[p] = price(p)
			if column < last {
				sums[p] += sums[s.after(p, sums)]
			}
		}
	}
	return sums
}

func (s Slope) after(p place, sums map[place]int) place {
	best := place{p.column + 1, p.bed}
	for bed := range following(p.bed, len(s.Columns[best.column])) {
		next := place{best.column, bed}
		if sums[next] < sums[best] {
			best = next
		}
	}
	return best
}

// find returns a surface whose prices have a sum below 0, if there is one.
func (s Slope) find(price func(place) int) (u Surface, found bool) {
search:
	for last := range len(s.Columns) {
		sums := s.sumsTo(last, price)
		for start := range s.starts(last) {
			if sums[start] < 0 {
				u, found = s.follow(start, last, sums), true
				break search
			}
		}
	}
	return u, found
}

func (s Slope) follow(start place, last int, sums map[place]int) Surface {
	u := Surface{From: start.column}
	var step func(p place)
	step = func(p place) {
		u.Beds = append(u.Beds, p.bed)
		if p.column < last {
			step(s.after(p, sums))
		}
	}
	step(start)
	return u
}

func (s Slope) fallsBelow(factor int) bool {
	_, found := s.find(look{s, factor, Bed.weakest}.cost)
	return found
}

// below returns the columns of all surfaces whose prices have a sum below 0.
func (s Slope) below(price func(place) int) []int {
	moving := make([]bool, len(s.Columns))
	for last := range len(s.Columns) {
		sums := s.sumsTo(last, price)
		for start := range s.starts(last) {
			if sums[start] >= 0 {
				continue
			}
			for column := start.column; column <= last; column++ {
				moving[column] = true
			}
		}
	}
	var columns []int
	for column, moves := range moving {
		if moves {
			columns = append(columns, column)
		}
	}
	return columns
}
