package works

import (
	"cmp"
	"iter"
	"slices"

	"sackung/api"
)

// counts has for each need how much counts of what is added for it.
type counts [api.MaxNeeds]int

// common is all that plans have in common which can go on in the same ways.
type common struct {
	works set               // that are still to be built
	left  [api.MaxYears]int // how much they may cost up to each year
	added counts            // by the works before them, and no more than is due
}

// outlook is what some works cost together, and how much they add for each need at most.
type outlook struct {
	cost int
	most counts
}

// planned is a project whose plans are tried, set of works by set of works.
type planned struct {
	Project
	outlooks []outlook       // by set
	failed   map[common]bool // from where no plan that suffices goes on
}

func (p Project) planned() planned {
	q := planned{p, make([]outlook, just(len(p.Works))), map[common]bool{}}
	for _, works := range sets(len(p.Works))[1:] {
		work := works.first()
		q.outlooks[works] = q.outlooks[works.without(work)].and(p.outlook(work))
	}
	return q
}

func (p Project) outlook(work int) outlook {
	o := outlook{cost: p.Works[work].Price}
	for year := range p.Works[work].years() {
		for need, count := range p.counting(work, year) {
			o.most[need] = max(o.most[need], count)
		}
	}
	return o
}

func (o outlook) and(more outlook) outlook {
	o.cost += more.cost
	for need, count := range more.most {
		o.most[need] += count
	}
	return o
}

// counting returns what a work that is built in a year adds for each need, at least, of which no more counts than is due.
func (p Project) counting(work, year int) counts {
	var c counts
	w := p.Works[work]
	for i, n := range p.Needs {
		c[i] = min(w.after(n.Year-year, w.Adds[n.Slope].least()), n.Due)
	}
	return c
}

func (p planned) start(works set) common {
	c := common{works: works}
	for year := range p.Years {
		c.left[year] = sum(p.Purses[:year+1]...)
	}
	return c
}

// then is what plans have in common that build the next work in a year.
func (p planned) then(c common, year int) common {
	work := c.works.first()
	c.works = c.works.without(work)
	counting := p.counting(work, year)
	for i, n := range p.Needs {
		c.added[i] = min(c.added[i]+counting[i], n.Due)
	}
	c.left = p.paid(c, year, p.Works[work].Price)
	return c
}

// paid leaves less from a year on, and never more than in a later year, or than the works to come cost: what lies above that cannot be spent, and would only make different what is the same.
func (p planned) paid(c common, year, price int) [api.MaxYears]int {
	for at := p.Years - 1; at >= 0; at-- {
		if at >= year {
			c.left[at] -= price
		}
		c.left[at] = min(c.left[at], c.left[max(at, year)], p.outlooks[c.works].cost)
	}
	return c.left
}

func (p planned) hopeful(c common) bool {
	o := p.outlooks[c.works]
	for i, n := range p.Needs {
		if c.added[i]+o.most[i] < n.Due {
			return false
		}
	}
	return c.left[0] >= 0 && c.left[p.Years-1] >= o.cost
}

// leastPlan returns the least plan that suffices of those that build just these works.
func (p planned) leastPlan(works set) ([]int, bool) {
	plan := slices.Repeat([]int{never}, len(p.Works))
	var try func(c common) bool
	try = func(c common) bool {
		switch {
		case !p.hopeful(c):
			return false
		case c.works == 0:
			return true
		case p.failed[c]:
			return false
		}
		work := c.works.first()
		for year := range p.Works[work].years() {
			plan[work] = year
			if try(p.then(c, year)) {
				return true
			}
		}
		p.failed[c] = true
		return false
	}
	return plan, try(p.start(works))
}

func (p planned) suffice(works set) bool {
	_, found := p.leastPlan(works)
	return found
}

// choices yields the sets of works for which just these villages have to be made to agree.
func (p planned) choices(villages set) iter.Seq[set] {
	return func(yield func(set) bool) {
		for _, works := range sets(len(p.Works)) {
			if p.against(works) == villages && !yield(works) {
				return
			}
		}
	}
}

// against are the villages that do not agree to some of the works.
func (p planned) against(works set) set {
	var villages set
	for _, work := range works.members() {
		if !p.mayBuild(work) {
			villages |= just(p.Works[work].Village)
		}
	}
	return villages
}

func (p planned) best() (best []int, found bool) {
	for _, works := range slices.SortedFunc(p.choices(0), p.cheaper) {
		if found && p.outlooks[works].cost > p.cost(built(best)) {
			break
		}
		if plan, suffices := p.leastPlan(works); suffices && (!found || slices.Compare(plan, best) < 0) {
			best, found = plan, true
		}
	}
	return best, found
}

func (p planned) cheaper(a, b set) int { return cmp.Compare(p.outlooks[a].cost, p.outlooks[b].cost) }

// needed returns the works that all sets have in common with which a plan suffices.
func (p planned) needed() (set, bool) {
	plan, found := p.best()
	needed := built(plan)
	for works := range p.choices(0) {
		if needed&^works != 0 && p.suffice(works) {
			needed &= works
		}
	}
	return needed, found
}

func (p planned) court() (decided set, found bool) {
	villages := sets(len(p.Villages))
	slices.SortFunc(villages, fewest)
search:
	for _, asked := range villages {
		for works := range p.choices(asked) {
			if p.suffice(works) {
				decided, found = asked, true
				break search
			}
		}
	}
	return decided, found
}
