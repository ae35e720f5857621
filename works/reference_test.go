package works_test

import (
	"iter"
	"math/rand"
	"slices"
	"testing"

	"sackung/api"
	"sackung/works"
)

func to(low, high int) works.Range { return works.Range{Lo: low, Hi: high} }

func need(slope, year, due int) works.Need { return works.Need{Slope: slope, Year: year, Due: due} }

// ridge is the project of the chapter's examples.
func ridge() works.Project {
	return works.Project{
		Years: 3, Slopes: 2,
		Works: []works.Work{
			{Price: 40, First: 0, Last: 1, Age: 100, Village: -1, Adds: []works.Range{to(50, 60), to(0, 0)}},
			{Price: 30, First: 0, Last: 2, Age: 0, Village: 0, Adds: []works.Range{to(20, 30), to(40, 50)}},
			{Price: 20, First: 0, Last: 2, Age: 500, Village: -1, Adds: []works.Range{to(30, 40), to(10, 10)}},
			{Price: 10, First: 0, Last: 2, Age: 0, Village: 1, Adds: []works.Range{to(60, 60), to(60, 60)}},
		},
		Needs:    []works.Need{need(0, 1, 45), need(1, 2, 40)},
		Villages: []bool{true, false},
		Purses:   []int{50, 30, 30},
	}
}

// hill is a project of one slope that needs so much in the last year, with works that nobody has to agree to, and money for all of them.
func hill(years, due int, list ...works.Work) works.Project {
	p := works.Project{Years: years, Slopes: 1, Works: list, Needs: []works.Need{need(0, years-1, due)}, Purses: make([]int, years)}
	p.Purses[0] = api.MaxMoney
	return p
}

// drain is a work for a hill.
func drain(price, first, last, age int, adds works.Range) works.Work {
	return works.Work{Price: price, First: first, Last: last, Age: age, Village: -1, Adds: []works.Range{adds}}
}

// with are copies of a project that share no memory with it.
func with(p works.Project) works.Project {
	p.Works = slices.Clone(p.Works)
	for i := range p.Works {
		p.Works[i].Adds = slices.Clone(p.Works[i].Adds)
	}
	p.Needs, p.Villages, p.Purses = slices.Clone(p.Needs), slices.Clone(p.Villages), slices.Clone(p.Purses)
	return p
}

func chance() *rand.Rand { return rand.New(rand.NewSource(6)) }

func one(r *rand.Rand, numbers ...int) int { return numbers[r.Intn(len(numbers))] }

// adding is what a work adds to a slope in a year, if it is built in another one and a number of its range is true.
func adding(w works.Work, built, year, number int) int {
	if built == -1 || year < built {
		return 0
	}
	left := 1000
	for range year - built {
		left -= w.Age
	}
	if left < 0 {
		left = 0
	}
	return number * left / 1000
}

// addedBy is what a plan adds in a truth: for each work the number of the slope.
func addedBy(p works.Project, plan, truth []int, year int) int {
	total := 0
	for i, w := range p.Works {
		total += adding(w, plan[i], year, truth[i])
	}
	return total
}

// lowest is the truth of a slope that has the Lo of each range, highest the one that has the Hi.
func lowest(p works.Project, slope int) []int {
	var truth []int
	for _, w := range p.Works {
		truth = append(truth, w.Adds[slope].Lo)
	}
	return truth
}

func highest(p works.Project, slope int) []int {
	var truth []int
	for _, w := range p.Works {
		truth = append(truth, w.Adds[slope].Hi)
	}
	return truth
}

func anyTruth(r *rand.Rand, p works.Project, slope int) []int {
	var truth []int
	for _, w := range p.Works {
		x := w.Adds[slope]
		truth = append(truth, one(r, x.Lo, x.Hi, x.Lo+r.Intn(x.Hi-x.Lo+1)))
	}
	return truth
}

func missingOf(p works.Project, plan []int) []int {
	var missing []int
	for i, n := range p.Needs {
		if addedBy(p, plan, lowest(p, n.Slope), n.Year) < n.Due {
			missing = append(missing, i)
		}
	}
	return missing
}

func mayBe(p works.Project, w works.Work) bool { return w.Village < 0 || p.Villages[w.Village] }

// isAllowed asks each condition of the chapter, word by word.
func isAllowed(p works.Project, plan []int) bool {
	for i, w := range p.Works {
		if plan[i] != -1 && (!mayBe(p, w) || plan[i] < w.First || plan[i] > w.Last) {
			return false
		}
	}
	money := 0
	for year := range p.Years {
		money += p.Purses[year]
		cost := 0
		for i, w := range p.Works {
			if plan[i] != -1 && plan[i] <= year {
				cost += w.Price
			}
		}
		if cost > money {
			return false
		}
	}
	return true
}

func isEnough(p works.Project, plan []int) bool {
	return isAllowed(p, plan) && len(missingOf(p, plan)) == 0
}

func costOf(p works.Project, plan []int) int {
	cost := 0
	for i, year := range plan {
		if year != -1 {
			cost += p.Works[i].Price
		}
	}
	return cost
}

// paidIn is what a plan costs in a year.
func paidIn(p works.Project, plan []int, year int) int {
	cost := 0
	for i, built := range plan {
		if built == year {
			cost += p.Works[i].Price
		}
	}
	return cost
}

// every has all plans with a year or -1 for each work, the least one first.
func every(p works.Project) iter.Seq[[]int] {
	return func(yield func([]int) bool) {
		plan := slices.Repeat([]int{-1}, len(p.Works))
		for yield(slices.Clone(plan)) {
			at := len(plan) - 1
			for at >= 0 && plan[at] == p.Works[at].Last {
				plan[at] = -1
				at--
			}
			if at < 0 {
				return
			}
			plan[at] = max(plan[at]+1, p.Works[at].First)
		}
	}
}

// known is what a look at all plans finds.
type known struct {
	found  bool
	plan   []int
	cost   int
	needed []int
}

func knownOf(p works.Project) known {
	var k known
	unless := make([]bool, len(p.Works)) // whether a plan suffices without the work
	for plan := range every(p) {
		if !isEnough(p, plan) {
			continue
		}
		if cost := costOf(p, plan); !k.found || cost < k.cost {
			k = known{found: true, plan: plan, cost: cost}
		}
		for i, year := range plan {
			unless[i] = unless[i] || year == -1
		}
	}
	for i := range unless {
		if k.found && !unless[i] {
			k.needed = append(k.needed, i)
		}
	}
	return k
}

// agreeing is the project where villages have to agree.
func agreeing(p works.Project, villages []int) works.Project {
	q := with(p)
	for _, village := range villages {
		q.Villages[village] = true
	}
	return q
}

// decisions are all lists of villages that do not agree, those with fewer first, and of as many the least one first.
func decisions(p works.Project) [][]int {
	var lists [][]int
	for size := range len(p.Villages) + 1 {
		var choose func(list []int, from int)
		choose = func(list []int, from int) {
			if len(list) == size {
				lists = append(lists, slices.Clone(list))
				return
			}
			for village := from; village < len(p.Villages); village++ {
				if !p.Villages[village] {
					choose(append(list, village), village+1)
				}
			}
		}
		choose(nil, 0)
	}
	return lists
}

func courtOf(p works.Project) ([]int, bool) {
	for _, villages := range decisions(p) {
		if knownOf(agreeing(p, villages)).found {
			return villages, true
		}
	}
	return nil, false
}

// worthOf is a work's worth by shares.
func worthOf(p works.Project, shares []int, work, year int) int {
	worth := 0
	for i, n := range p.Needs {
		w := p.Works[work]
		worth += shares[i] * min(n.Due, adding(w, year, n.Year, w.Adds[n.Slope].Lo))
	}
	return worth
}

// boundOf is the bound that shares have if they prove one.
func boundOf(p works.Project, shares []int) int {
	total := 0
	for i, n := range p.Needs {
		total += shares[i] * n.Due
	}
	if total%1000 > 0 {
		return total/1000 + 1
	}
	return total / 1000
}

func areProof(p works.Project, shares []int) bool {
	for i, w := range p.Works {
		for year := w.First; year <= w.Last; year++ {
			if mayBe(p, w) && worthOf(p, shares, i, year) > 1000*w.Price {
				return false
			}
		}
	}
	return true
}

func anyPlan(r *rand.Rand, p works.Project) []int {
	var plan []int
	for _, w := range p.Works {
		plan = append(plan, one(r, -1, w.First, w.First+r.Intn(w.Last-w.First+1)))
	}
	return plan
}

// size says how large a project is to be.
type size struct{ years, slopes, works, needs, villages, add, price int }

func small(r *rand.Rand) size {
	return size{1 + r.Intn(3), 1 + r.Intn(2), r.Intn(5), r.Intn(4), r.Intn(4), 60, 1 + r.Intn(30)}
}

func large(r *rand.Rand) size {
	return size{5, 6, 8, 1 + r.Intn(20), 6, 1 + r.Intn(api.MaxAdd), 1 + r.Intn(1000)}
}

func anyRange(r *rand.Rand, top int) works.Range {
	low := r.Intn(top + 1)
	return to(low, low+r.Intn(top-low+1))
}

func anyWork(r *rand.Rand, s size) works.Work {
	w := works.Work{Price: 1 + r.Intn(s.price), Age: one(r, 0, 100, 333, 500, 1000, r.Intn(1001)), Village: r.Intn(s.villages+1) - 1}
	w.First = r.Intn(s.years)
	w.Last = w.First + r.Intn(s.years-w.First)
	for range s.slopes {
		w.Adds = append(w.Adds, anyRange(r, s.add))
	}
	return w
}

// anyProject has needs that a plan of its own meets, more or less, and perhaps not enough money for it.
func anyProject(r *rand.Rand, s size) works.Project {
	p := works.Project{Years: s.years, Slopes: s.slopes}
	for range s.villages {
		p.Villages = append(p.Villages, r.Intn(3) > 0)
	}
	for range s.works {
		p.Works = append(p.Works, anyWork(r, s))
	}
	plan := anyPlan(r, p)
	for year := range s.years {
		p.Purses = append(p.Purses, one(r, 0, r.Intn(s.price+1), r.Intn(s.price*(s.works+1)+1), paidIn(p, plan, year)))
	}
	for range s.needs {
		n := need(r.Intn(s.slopes), r.Intn(s.years), 1)
		n.Due = min(max(1, addedBy(p, plan, lowest(p, n.Slope), n.Year)-one(r, 0, 0, 0, 1, 5, -1)), api.MaxAdd)
		p.Needs = append(p.Needs, n)
	}
	return p
}

// thrifty is a project of little money, which may do for dear works alone, as they can be paid later.
func thrifty(r *rand.Rand) works.Project {
	p := anyProject(r, size{years: 3, slopes: 2, works: 4, needs: 2 + r.Intn(2), add: 60, price: 10})
	for i := range p.Works {
		p.Works[i].First, p.Works[i].Last, p.Works[i].Age = 0, 1+r.Intn(2), one(r, 200, 500, 700)
	}
	for i := range p.Needs {
		p.Needs[i] = need(r.Intn(2), i, 10+r.Intn(30))
	}
	for year := range p.Purses {
		p.Purses[year] = r.Intn(15)
	}
	return p
}

// anyShares are perhaps a little more than what proves something.
func anyShares(r *rand.Rand, p works.Project) []int {
	shares := make([]int, len(p.Needs))
	for i := range shares {
		shares[i] = one(r, 0, r.Intn(5000), r.Intn(100000))
	}
	for work, w := range p.Works {
		for year := w.First; year <= w.Last; year++ {
			if worth := worthOf(p, shares, work, year); mayBe(p, w) && worth > 1000*w.Price {
				for i := range shares {
					shares[i] = shares[i] * 1000 * w.Price / worth
				}
			}
		}
	}
	if len(shares) > 0 && r.Intn(2) == 0 {
		shares[r.Intn(len(shares))] += one(r, 1, 2, 100)
	}
	return shares
}

func best(t *testing.T, p works.Project) ([]int, int, bool) {
	t.Helper()
	plan, cost, e := works.Best(p)
	if e != api.OK && (e != api.ErrFail || len(plan) != 0 || cost != 0) {
		t.Fatal("Best:", p, plan, cost, e)
	}
	return plan, cost, e == api.OK
}
