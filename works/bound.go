package works

// bears asks whether no work is worth more than its price.
func (p Project) bears(shares []int) bool {
	for work, w := range p.Works {
		for year := range w.years() {
			if p.mayBuild(work) && p.worth(shares, work, year) > 1000*w.Price {
				return false
			}
		}
	}
	return true
}

func (p Project) worth(shares []int, work, year int) int {
	counts := p.counting(work, year)
	var worth []int
	for need, share := range shares {
		worth = append(worth, share*counts[need])
	}
	return sum(worth...)
}

func (p Project) bound(shares []int) int {
	var worth []int
	for need, share := range shares {
		worth = append(worth, share*p.Needs[need].Due)
	}
	return (sum(worth...) + 999) / 1000
}
