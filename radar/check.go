package radar

import "sackung/api"

func checkStakes(s Survey, stakes []Tool) api.Errno {
	if e := CheckSurvey(s); e != api.OK {
		return e
	}
	if !(Range{1, api.MaxStakes}).has(len(stakes)) {
		return api.ErrRange
	}
	if !all(stakes, s.takesStake) {
		return api.ErrArg
	}
	return api.OK
}

func (s Survey) valid() bool {
	return len(s.Spots) > 0 && all(s.Spots, Spot.valid) && Range{0, api.MaxStrain}.has(s.Strain) &&
		Range{0, api.MaxSurvey}.has(s.Day) && all(s.Tools, s.takes) &&
		len(s.Reads) == len(s.Tools) && all(s.Reads, Range{-api.MaxRead, api.MaxRead}.has)
}

func (s Survey) takes(t Tool) bool {
	sights := Range{-api.MaxSight, api.MaxSight}
	return Range{0, len(s.Spots) - 1}.has(t.Spot) && sights.has(t.A) && sights.has(t.B) && (t.A != 0 || t.B != 0) &&
		(t.Turn == 0 || Range{2, api.MaxTurn}.has(t.Turn)) && Range{0, api.MaxErr}.has(t.Err) &&
		Range{0, api.MaxDrift}.has(t.Drift) && Range{0, s.Day}.has(t.Since)
}

func (s Survey) takesStake(t Tool) bool { return s.takes(t) && t.Turn == 0 }

func (p Spot) valid() bool { return p.X.valid() && p.Y.valid() }

func (r Range) valid() bool {
	limits := Range{-api.MaxMove, api.MaxMove}
	return limits.has(r.Lo) && limits.has(r.Hi) && Range{r.Lo, r.Lo + api.MaxSpan}.has(r.Hi)
}

func (r Range) has(number int) bool { return r.Lo <= number && number <= r.Hi }

func all[T any](list []T, good func(T) bool) bool {
	for _, x := range list {
		if !good(x) {
			return false
		}
	}
	return true
}
