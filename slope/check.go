package slope

import "sackung/api"

func checkSurface(s Slope, u Surface) api.Errno {
	if e := CheckSlope(s); e != api.OK {
		return e
	}
	if !s.has(u) {
		return api.ErrRange
	}
	return api.OK
}

func checkFactor(s Slope, factor int) api.Errno {
	if e := CheckSlope(s); e != api.OK {
		return e
	}
	if !(Range{0, api.MaxFactor}).has(factor) {
		return api.ErrRange
	}
	return api.OK
}

func checkReached(s Slope, factor int) api.Errno {
	if e := checkFactor(s, factor); e != api.OK {
		return e
	}
	if s.fallsBelow(factor) {
		return api.ErrLow
	}
	return api.OK
}

func (s Slope) valid() bool {
	if !(Range{1, api.MaxLeast}).has(s.Least) || !(Range{1, api.MaxColumns}).has(len(s.Columns)) {
		return false
	}
	beds := len(s.Columns[0])
	return Range{1, api.MaxBeds}.has(beds) && all(s.Columns, func(column []Bed) bool {
		return len(column) == beds && all(column, Bed.valid)
	})
}

func (b Bed) valid() bool {
	return Range{-api.MaxForce, api.MaxForce}.has(b.Drive) && Range{0, api.MaxForce}.has(b.Normal) &&
		b.Friction.within(api.MaxFriction) && b.Cohesion.within(api.MaxForce) && b.Water.within(api.MaxForce)
}

func (s Slope) has(u Surface) bool {
	// The columns that are left are counted, as From and the number of Beds may be too great to be added.
	if !(Range{0, len(s.Columns) - 1}).has(u.From) || !(Range{s.Least, len(s.Columns) - u.From}).has(len(u.Beds)) {
		return false
	}
	last := Range{0, len(s.Columns[0]) - 1}
	if !all(u.Beds, last.has) {
		return false
	}
	for i, bed := range u.Beds[1:] {
		if before := u.Beds[i]; bed < before-1 || bed > before+1 {
			return false
		}
	}
	return true
}

func fits(truth []Real, beds []Bed) bool {
	if len(truth) != len(beds) {
		return false
	}
	for i, bed := range beds {
		if !bed.Friction.has(truth[i].Friction) || !bed.Cohesion.has(truth[i].Cohesion) || !bed.Water.has(truth[i].Water) {
			return false
		}
	}
	return true
}

func (r Range) has(number int) bool { return r.Lo <= number && number <= r.Hi }

func (r Range) within(limit int) bool { return 0 <= r.Lo && r.Lo <= r.Hi && r.Hi <= limit }

func all[T any](list []T, good func(T) bool) bool {
	for _, x := range list {
		if !good(x) {
			return false
		}
	}
	return true
}
