package works

import "iter"

// never is the year of a work that is not built.
const never = -1

// years yields the years in which a work can be built.
func (w Work) years() iter.Seq[int] {
	return func(yield func(int) bool) {
		for year := w.First; year <= w.Last; year++ {
			if !yield(year) {
				return
			}
		}
	}
}

// after returns what a work adds so many years after the one in which it was built, if it added a number then.
func (w Work) after(years, number int) int {
	if years < 0 {
		return 0
	}
	return number * max(0, 1000-w.Age*years) / 1000
}

func (p Project) mayBuild(work int) bool {
	village := p.Works[work].Village
	return village == -1 || p.Villages[village]
}

// added returns what a plan adds to a slope in a year, in the truth that has this end of each range.
func (p Project) added(plan []int, slope, year int, end func(Range) int) int {
	var numbers []int
	for _, work := range built(plan).members() {
		w := p.Works[work]
		numbers = append(numbers, w.after(year-plan[work], end(w.Adds[slope])))
	}
	return sum(numbers...)
}

// missing asks for the least ends alone: no truth adds less.
func (p Project) missing(plan []int) []int {
	var needs []int
	for i, n := range p.Needs {
		if p.added(plan, n.Slope, n.Year, Range.least) < n.Due {
			needs = append(needs, i)
		}
	}
	return needs
}

func (p Project) allows(plan []int) bool {
	for year := range p.Years {
		if p.cost(builtBy(plan, year)) > sum(p.Purses[:year+1]...) {
			return false
		}
	}
	return all(built(plan).members(), p.mayBuild)
}

func (p Project) cost(works set) int {
	var prices []int
	for _, work := range works.members() {
		prices = append(prices, p.Works[work].Price)
	}
	return sum(prices...)
}

func sum(numbers ...int) int {
	total := 0
	for _, n := range numbers {
		total += n
	}
	return total
}
