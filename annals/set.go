package annals

import (
	"iter"

	"sackung/api"
)

// set is a set of reports, with a bit for each.
type set uint8

func just(report int) set { return 1 << report }

func (s set) has(report int) bool { return s&just(report) != 0 }

func (s set) reports() iter.Seq[int] {
	return func(yield func(int) bool) {
		for report := range api.MaxReports {
			if s.has(report) && !yield(report) {
				return
			}
		}
	}
}

// parts yields the sets in a set that are good, but for the empty one.
func (s set) parts(good func(set) bool) iter.Seq[set] {
	return func(yield func(set) bool) {
		for part := s; part != 0; part = (part - 1) & s {
			if good(part) && !yield(part) {
				return
			}
		}
	}
}
