package slope

import "sackung/api"

func (r Range) low() int { return r.Lo }

func (r Range) high() int { return r.Hi }

// Water takes weight off a bed, so its ends are chosen against those of what holds.
func (b Bed) weakest() Real { return b.ends(Range.low, Range.high) }

func (b Bed) strongest() Real { return b.ends(Range.high, Range.low) }

func (b Bed) ends(strength, water func(Range) int) Real {
	return Real{strength(b.Friction), strength(b.Cohesion), water(b.Water)}
}

func (b Bed) holds(r Real) int {
	return max(b.Normal-r.Water, 0)*r.Friction/1000 + r.Cohesion
}

func (s Slope) bedsOf(u Surface) []Bed {
	var beds []Bed
	for i, bed := range u.Beds {
		beds = append(beds, s.Columns[u.From+i][bed])
	}
	return beds
}

func driveOf(beds []Bed) int {
	sum := 0
	for _, bed := range beds {
		sum += bed.Drive
	}
	return sum
}

func factorOf(held, drive int) int { return min(1000*held/drive, api.MaxFactor) }

func (s Slope) wetter(water int) Slope {
	var columns [][]Bed
	for _, column := range s.Columns {
		var beds []Bed
		for _, bed := range column {
			bed.Water.Hi = min(bed.Water.Hi+water, api.MaxForce)
			beds = append(beds, bed)
		}
		columns = append(columns, beds)
	}
	return Slope{columns, s.Least}
}
