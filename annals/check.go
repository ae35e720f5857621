package annals

import "sackung/api"

// possible returns the annals at their start, if they can be.
func possible(a Annals) (course, api.Errno) {
	if e := CheckAnnals(a); e != api.OK {
		return course{}, e
	}
	c := a.course()
	if !c.leadsOn() {
		return course{}, api.ErrFail
	}
	return c, api.OK
}

func (a Annals) valid() bool {
	return len(a.Reports) > 0 && all(a.Reports, Report.valid) && all(a.Claims, a.takes) && allDays().has(a.Rest)
}

func (r Report) valid() bool {
	return Range{0, api.MaxSite}.has(r.Slope) && allDays().has(r.When.Lo) && Range{r.When.Lo, api.MaxEpoch}.has(r.When.Hi)
}

func (a Annals) takes(c Claim) bool {
	return c.Kind <= Other && indexes(a.Reports).has(c.A) && indexes(a.Reports).has(c.B) && c.A != c.B
}

// allDays are the days of a When that is left out.
func allDays() Range { return Range{0, api.MaxEpoch} }

func (r Range) has(number int) bool { return r.Lo <= number && number <= r.Hi }

func indexes[T any](list []T) Range { return Range{0, len(list) - 1} }

func all[T any](list []T, good func(T) bool) bool {
	for _, x := range list {
		if !good(x) {
			return false
		}
	}
	return true
}

func rise(numbers []int) bool {
	for i := 1; i < len(numbers); i++ {
		if numbers[i] <= numbers[i-1] {
			return false
		}
	}
	return true
}
