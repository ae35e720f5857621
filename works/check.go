package works

import "sackung/api"

func checkPlan(p Project, plan []int) api.Errno {
	if e := CheckProject(p); e != api.OK {
		return e
	}
	if !p.takesPlan(plan) {
		return api.ErrRange
	}
	return api.OK
}

func (p Project) valid() bool {
	return Range{1, api.MaxYears}.has(p.Years) && Range{1, api.MaxHills}.has(p.Slopes) &&
		all(p.Works, p.takesWork) && all(p.Needs, p.takesNeed) &&
		len(p.Purses) == p.Years && all(p.Purses, Range{0, api.MaxMoney}.has)
}

func (p Project) takesWork(w Work) bool {
	return Range{1, api.MaxMoney}.has(w.Price) && Range{0, w.Last}.has(w.First) && upTo(p.Years).has(w.Last) &&
		Range{0, api.MaxAge}.has(w.Age) && Range{-1, len(p.Villages) - 1}.has(w.Village) &&
		len(w.Adds) == p.Slopes && all(w.Adds, Range.valid)
}

func (p Project) takesNeed(n Need) bool {
	return upTo(p.Slopes).has(n.Slope) && upTo(p.Years).has(n.Year) && Range{1, api.MaxAdd}.has(n.Due)
}

func (p Project) takesPlan(plan []int) bool {
	if len(plan) != len(p.Works) {
		return false
	}
	for work, year := range plan {
		w := p.Works[work]
		if year != never && !(Range{w.First, w.Last}).has(year) {
			return false
		}
	}
	return true
}

func (r Range) valid() bool { return Range{0, r.Hi}.has(r.Lo) && r.Hi <= api.MaxAdd }

func (r Range) has(number int) bool { return r.Lo <= number && number <= r.Hi }

func (r Range) least() int { return r.Lo }

func (r Range) greatest() int { return r.Hi }

// upTo has the numbers of so many, the first one being 0.
func upTo(many int) Range { return Range{0, many - 1} }

func all[T any](list []T, good func(T) bool) bool {
	for _, x := range list {
		if !good(x) {
			return false
		}
	}
	return true
}
