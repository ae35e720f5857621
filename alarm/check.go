package alarm

import "sackung/api"

func checkReads(p Post, reads [][]int) api.Errno {
	if e := CheckPost(p); e != api.OK {
		return e
	}
	if len(reads) > api.MaxHours {
		return api.ErrLimit
	}
	if p.rows(reads) < len(reads) {
		return api.ErrRange
	}
	return api.OK
}

// allPossible returns the post on duty, if a truth is possible over all rows.
func allPossible(p Post, reads [][]int) (duty, api.Errno) {
	if e := checkReads(p, reads); e != api.OK {
		return duty{}, e
	}
	d := p.onDuty(reads)
	if !d.possible(len(reads)) {
		return duty{}, api.ErrFail
	}
	return d, api.OK
}

func checkSeasons(l []Season) api.Errno {
	if len(l) > api.MaxSeasons || !all(l, Season.short) {
		return api.ErrLimit
	}
	if !all(l, Season.valid) {
		return api.ErrArg
	}
	return api.OK
}

func checkTerms(l []Season, t Terms) api.Errno {
	if e := checkSeasons(l); e != api.OK {
		return e
	}
	if len(l) == 0 {
		return api.ErrArg
	}
	if !t.valid() {
		return api.ErrRange
	}
	return api.OK
}

func (p Post) valid() bool {
	rises, hours := ends{0, api.MaxRise}, ends{0, api.MaxHours}
	return ends{1, api.MaxGauges}.has(len(p.Errs)) && all(p.Errs, ends{0, api.MaxSpeed}.has) &&
		rises.has(p.Gain) && rises.has(p.Drop) && ends{1, api.MaxSpeed}.has(p.Fall) && hours.has(p.Out) && hours.has(p.Ahead)
}

// rows counts the rows before the first one that is no row.
func (p Post) rows(reads [][]int) int {
	good := 0
rows:
	for _, row := range reads {
		if len(row) != len(p.Errs) {
			break rows
		}
		for _, read := range row {
			if !(ends{-api.MaxSpeed, 2 * api.MaxSpeed}).has(read) {
				break rows
			}
		}
		good++
	}
	return good
}

func (s Season) short() bool { return len(s.Speeds) <= api.MaxHours }

func (s Season) valid() bool { return all(s.Speeds, ends{0, api.MaxSpeed}.has) }

func (r Rule) valid() bool {
	return ends{0, api.MaxSpeed}.has(r.Start) && ends{0, r.Start}.has(r.Back) && ends{1, api.MaxHours}.has(r.Hold)
}

func (t Terms) valid() bool {
	prices := ends{0, api.MaxCall}
	return ends{0, api.MaxHours}.has(t.Out) && ends{1, api.MaxHours}.has(t.Hold) && ends{0, api.MaxSpeed}.has(t.Less) &&
		prices.has(t.Price) && prices.has(t.Hour)
}

func indexes[T any](list []T) ends { return ends{0, len(list) - 1} }

func all[T any](list []T, good func(T) bool) bool {
	for _, x := range list {
		if !good(x) {
			return false
		}
	}
	return true
}
