package slope_test

import (
	"math/rand"
	"slices"

	"sackung/slope"
)

func to(low, high int) slope.Range { return slope.Range{Lo: low, Hi: high} }

func bed(drive, normal int, friction, cohesion, water slope.Range) slope.Bed {
	return slope.Bed{Drive: drive, Normal: normal, Friction: friction, Cohesion: cohesion, Water: water}
}

// plain is a bed that holds and drives just these forces.
func plain(drive, holds int) slope.Bed {
	return bed(drive, 0, to(0, 0), to(holds, holds), to(0, 0))
}

func surface(from int, beds ...int) slope.Surface { return slope.Surface{From: from, Beds: beds} }

// hill is the slope of the chapter's examples.
func hill() slope.Slope {
	soft, firm, thin, thick := to(300, 400), to(400, 500), to(50, 60), to(20, 40)
	return slope.Slope{Least: 2, Columns: [][]slope.Bed{
		{bed(400, 900, soft, thin, to(100, 200)), bed(600, 1500, firm, thick, to(300, 500))},
		{bed(300, 1000, soft, thin, to(0, 200)), bed(500, 1600, firm, thick, to(200, 600))},
		{bed(-100, 1200, soft, thin, to(0, 100)), bed(100, 1800, firm, thick, to(0, 400))},
	}}
}

// level is a slope with as many columns and beds, of which none drives.
func level(columns, beds, least int) slope.Slope {
	s := slope.Slope{Least: least}
	for range columns {
		s.Columns = append(s.Columns, make([]slope.Bed, beds))
	}
	return s
}

func broken() slope.Slope {
	s := hill()
	s.Columns[1][1].Normal = -1
	return s
}

func copied(s slope.Slope) slope.Slope {
	c := slope.Slope{Least: s.Least}
	for _, column := range s.Columns {
		c.Columns = append(c.Columns, slices.Clone(column))
	}
	return c
}

// chance makes the same slopes in each run, as its seed is fixed.
func chance() *rand.Rand { return rand.New(rand.NewSource(20261119)) }

func anyRange(r *rand.Rand, limit int) slope.Range {
	a, b := r.Intn(limit+1), r.Intn(limit+1)
	return to(min(a, b), max(a, b))
}

func anyBed(r *rand.Rand) slope.Bed {
	return bed(r.Intn(200)-60, r.Intn(150), anyRange(r, 900), anyRange(r, 60), anyRange(r, 170))
}

func anySlope(r *rand.Rand, columns, beds int) slope.Slope {
	s := slope.Slope{Least: 1 + r.Intn(4)}
	for range columns {
		var column []slope.Bed
		for range beds {
			column = append(column, anyBed(r))
		}
		s.Columns = append(s.Columns, column)
	}
	return s
}

func smallSlope(r *rand.Rand) slope.Slope { return anySlope(r, 1+r.Intn(5), 1+r.Intn(3)) }

// surfacesOf has all the surfaces of a slope, one after the other.
func surfacesOf(s slope.Slope) []slope.Surface {
	var list []slope.Surface
	var extend func(u slope.Surface)
	extend = func(u slope.Surface) {
		if len(u.Beds) >= s.Least {
			list = append(list, u)
		}
		if u.From+len(u.Beds) == len(s.Columns) {
			return
		}
		for next := range s.Columns[0] {
			if n := len(u.Beds); n == 0 || next-u.Beds[n-1] <= 1 && u.Beds[n-1]-next <= 1 {
				extend(slope.Surface{From: u.From, Beds: append(slices.Clone(u.Beds), next)})
			}
		}
	}
	for from := range s.Columns {
		extend(slope.Surface{From: from})
	}
	return list
}

func held(b slope.Bed, friction, cohesion, water int) int {
	weight := b.Normal - water
	if weight < 0 {
		weight = 0
	}
	return weight*friction/1000 + cohesion
}

// expected is the span of a surface, if it drives.
func expected(s slope.Slope, u slope.Surface) (r slope.Range, drives bool) {
	low, high, drive := 0, 0, 0
	for i, n := range u.Beds {
		b := s.Columns[u.From+i][n]
		drive += b.Drive
		low += held(b, b.Friction.Lo, b.Cohesion.Lo, b.Water.Hi)
		high += held(b, b.Friction.Hi, b.Cohesion.Hi, b.Water.Lo)
	}
	if drive < 1 {
		return r, false
	}
	return to(min(1000*low/drive, 10000), min(1000*high/drive, 10000)), true
}

// leastOf is the least factor, and 10001 if no surface drives.
func leastOf(s slope.Slope) int {
	n := 10001
	for _, u := range surfacesOf(s) {
		if r, drives := expected(s, u); drives {
			n = min(n, r.Lo)
		}
	}
	return n
}

func columnsBelow(s slope.Slope, factor int) (surely, perhaps []int) {
	var sure, may = make([]bool, len(s.Columns)), make([]bool, len(s.Columns))
	for _, u := range surfacesOf(s) {
		r, drives := expected(s, u)
		for i := range u.Beds {
			sure[u.From+i] = sure[u.From+i] || drives && r.Hi < factor
			may[u.From+i] = may[u.From+i] || drives && r.Lo < factor
		}
	}
	for i := range s.Columns {
		if sure[i] {
			surely = append(surely, i)
		}
		if may[i] {
			perhaps = append(perhaps, i)
		}
	}
	return surely, perhaps
}

func wetter(s slope.Slope, water int) slope.Slope {
	s = copied(s)
	for _, column := range s.Columns {
		for i := range column {
			column[i].Water.Hi = min(column[i].Water.Hi+water, 100000)
		}
	}
	return s
}

// costOf is what a bed costs, for a factor.
func costOf(b slope.Bed, factor int) int {
	return 1000*held(b, b.Friction.Lo, b.Cohesion.Lo, b.Water.Hi) - factor*b.Drive
}

// proves asks the chapter's five conditions of a table that has the rows and numbers of one.
func proves(s slope.Slope, factor int, t slope.Table) bool {
	for n := 1; n <= s.Least; n++ {
		for k, column := range s.Columns {
			for b, x := range column {
				number, cost := t[n-1][k][b], costOf(x, factor)
				if number < -1000000000000000 || number > 1000000000000000 || n == 1 && number > cost {
					return false
				}
				if n == s.Least && k >= s.Least-1 && number < 0 {
					return false
				}
				for c := range column {
					if k == 0 || c < b-1 || c > b+1 {
						continue
					}
					if n > 1 && number > cost+t[n-2][k-1][c] || n == s.Least && number > cost+t[n-1][k-1][c] {
						return false
					}
				}
			}
		}
	}
	return true
}

func copiedTable(t slope.Table) slope.Table {
	var c slope.Table
	for _, row := range t {
		var r [][]int
		for _, numbers := range row {
			r = append(r, slices.Clone(numbers))
		}
		c = append(c, r)
	}
	return c
}
