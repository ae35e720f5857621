package alarm_test

import (
	"math/rand"
	"slices"

	"sackung/alarm"
	"sackung/api"
)

// trio is the post of the chapter's examples.
func trio() alarm.Post {
	return alarm.Post{Errs: []int{2, 2, 5}, Gain: 3, Drop: 10, Fall: 30, Out: 4, Ahead: 2}
}

// stuck are the reads of the chapter's examples in which a gauge reads too much.
func stuck() [][]int { return [][]int{{10, 11, 12}, {12, 30, 13}, {15, 29, 14}} }

// sudden are the reads of the examples that rise in the last hour.
func sudden() [][]int { return [][]int{{10, 11, 12}, {12, 13, 13}, {18, 18, 18}} }

// plain is a post with gauges that are off by nothing, and a slope that keeps its speed.
func plain(gauges int) alarm.Post { return alarm.Post{Errs: make([]int, gauges), Fall: 1000} }

// dusk is the season of the chapter's examples.
func dusk(fell bool) alarm.Season {
	return alarm.Season{Speeds: []int{5, 12, 9, 9, 3, 14, 15}, Fell: fell}
}

func copied(reads [][]int) [][]int {
	var l [][]int
	for _, row := range reads {
		l = append(l, slices.Clone(row))
	}
	return l
}

func apart(a, b int) int {
	if a < b {
		return b - a
	}
	return a - b
}

func chance() *rand.Rand { return rand.New(rand.NewSource(4)) }

// possible tries each speed of each hour: the speeds that truths with this gauge failed have, up to each hour.
func possible(p alarm.Post, reads [][]int, failed int) []map[int]bool {
	var l []map[int]bool
	for hour, row := range reads {
		now := map[int]bool{}
		for speed := 0; speed <= api.MaxSpeed; speed++ {
			if readable(p, row, failed, speed) && (hour == 0 || reached(p, l[hour-1], speed)) {
				now[speed] = true
			}
		}
		l = append(l, now)
	}
	return l
}

func readable(p alarm.Post, row []int, failed, speed int) bool {
	for gauge, read := range row {
		if gauge != failed && apart(read, speed) > p.Errs[gauge] {
			return false
		}
	}
	return true
}

// reached asks whether some speed of the hour before may become this one.
func reached(p alarm.Post, before map[int]bool, speed int) bool {
	for was := speed - p.Gain; was <= speed+p.Drop; was++ {
		if before[was] {
			return true
		}
	}
	return false
}

// known is what the reference finds of a post: of each hour the speeds that may be, whichever gauge has failed, and the gauges that may have failed over all rows.
type known struct {
	speeds []map[int]bool
	failed []int
}

func knownOf(p alarm.Post, reads [][]int) known {
	var k known
	for range reads {
		k.speeds = append(k.speeds, map[int]bool{})
	}
	for failed := -1; failed < len(p.Errs); failed++ {
		l := possible(p, reads, failed)
		for hour, speeds := range l {
			for speed := range speeds {
				k.speeds[hour][speed] = true
			}
		}
		if len(reads) == 0 || len(l[len(l)-1]) > 0 {
			k.failed = append(k.failed, failed)
		}
	}
	return k
}

// breaks returns the first hour without a speed, or the number of rows.
func (k known) breaks() int {
	for hour, speeds := range k.speeds {
		if len(speeds) == 0 {
			return hour
		}
	}
	return len(k.speeds)
}

// levelOf lets the speed grow hour by hour.
func levelOf(p alarm.Post, speed int) uint8 {
	for hour := 0; hour <= p.Out+2*p.Ahead; hour++ {
		if speed >= p.Fall {
			switch {
			case hour <= p.Out:
				return alarm.Call
			case hour <= p.Out+p.Ahead:
				return alarm.Ready
			}
			return alarm.Watch
		}
		speed += p.Gain
	}
	return alarm.Rest
}

func (k known) states(p alarm.Post) []alarm.State {
	var l []alarm.State
	for _, speeds := range k.speeds {
		x := alarm.State{Lo: 2000, Hi: -1}
		for speed := range speeds {
			x.Lo, x.Hi = min(x.Lo, speed), max(x.Hi, speed)
		}
		x.Level = levelOf(p, x.Hi)
		l = append(l, x)
	}
	return l
}

// isTruth asks each hour of a truth by the words of the chapter.
func isTruth(p alarm.Post, reads [][]int, failed int, speeds []int) bool {
	if failed < -1 || failed >= len(p.Errs) || len(speeds) != len(reads) {
		return false
	}
	for hour, speed := range speeds {
		if speed < 0 || speed > api.MaxSpeed || !readable(p, reads[hour], failed, speed) {
			return false
		}
		if hour > 0 && (speed-speeds[hour-1] > p.Gain || speeds[hour-1]-speed > p.Drop) {
			return false
		}
	}
	return true
}

// anyPost has gauges that are off by at most off, and a slope that rises and drops by at most rise.
func anyPost(r *rand.Rand, gauges, off, rise int) alarm.Post {
	p := alarm.Post{Gain: r.Intn(rise + 1), Drop: r.Intn(rise + 1), Out: r.Intn(8), Ahead: r.Intn(8)}
	for range gauges {
		p.Errs = append(p.Errs, r.Intn(off+1))
	}
	p.Fall = 1 + r.Intn(api.MaxSpeed)
	return p
}

// anyTruth moves from some speed on.
func anyTruth(r *rand.Rand, p alarm.Post, hours int) []int {
	var l []int
	speed := r.Intn(api.MaxSpeed + 1)
	for range hours {
		speed = min(max(speed+r.Intn(p.Gain+p.Drop+1)-p.Drop, 0), api.MaxSpeed)
		l = append(l, speed)
	}
	return l
}

// anyReads are reads of a truth by gauges of which one has failed, or none.
func anyReads(r *rand.Rand, p alarm.Post, truth []int, failed int) [][]int {
	var l [][]int
	away := r.Intn(3)
	for _, speed := range truth {
		var row []int
		for gauge, off := range p.Errs {
			read := speed + r.Intn(2*off+1) - off
			switch {
			case gauge == failed && away == 0:
				read = r.Intn(3*api.MaxSpeed+1) - api.MaxSpeed
			case gauge == failed:
				read += r.Intn(4*off+4) - 2*off - 2
			}
			row = append(row, min(max(read, -api.MaxSpeed), 2*api.MaxSpeed))
		}
		l = append(l, row)
	}
	return l
}

// anyWork is a post with a truth, a gauge that has failed, or none, and what is read then.
func anyWork(r *rand.Rand, gauges, hours, off, rise int) (p alarm.Post, reads [][]int, failed int, truth []int) {
	p = anyPost(r, gauges, off, rise)
	truth = anyTruth(r, p, hours)
	failed = r.Intn(gauges+1) - 1
	return p, anyReads(r, p, truth, failed), failed, truth
}

// smallWork is near a break: its reads are shaken once more.
func smallWork(r *rand.Rand) (alarm.Post, [][]int) {
	p, reads, _, _ := anyWork(r, 1+r.Intn(5), r.Intn(6), 4, 4)
	for _, row := range reads {
		if r.Intn(2) == 0 {
			row[r.Intn(len(row))] += r.Intn(13) - 6
		}
		for gauge := range row {
			row[gauge] = min(max(row[gauge], -api.MaxSpeed), 2*api.MaxSpeed)
		}
	}
	return p, reads
}

// spellsOf goes through the season hour by hour: alarms are off, held, or on until the speed is below Back.
func spellsOf(s alarm.Season, r alarm.Rule) []alarm.Spell {
	var l []alarm.Spell
	on := 0
	for hour, speed := range s.Speeds {
		switch {
		case on == 0 && speed >= r.Start:
			l = append(l, alarm.Spell{From: hour})
			on = 1
		case on == 0:
			continue
		case on >= r.Hold && speed < r.Back:
			on = 0
			continue
		default:
			on++
		}
		l[len(l)-1].To = hour + 1
	}
	return l
}

func priceOf(l []alarm.Season, t alarm.Terms, r alarm.Rule) (price int, inTime bool) {
	inTime = true
	for _, s := range l {
		fine := false
		for _, x := range spellsOf(s, r) {
			hours := 0
			for hour := x.From; hour < x.To; hour++ {
				hours++
			}
			price += hours * t.Hour
			if x.To == len(s.Speeds) && s.Fell {
				fine = hours > 0 && hours >= t.Out
			} else {
				price += t.Price
			}
		}
		if s.Fell && !fine {
			inTime = false
		}
	}
	return price, inTime
}

// ruleOf is the rule with a Start that the terms have.
func ruleOf(t alarm.Terms, start int) alarm.Rule {
	r := alarm.Rule{Start: start, Hold: t.Hold}
	if start > t.Less {
		r.Back = start - t.Less
	}
	return r
}

// bestOf tries each Start from the greatest one on.
func bestOf(l []alarm.Season, t alarm.Terms) (r alarm.Rule, price int, found bool) {
	for start := api.MaxSpeed; start >= 0; start-- {
		one := ruleOf(t, start)
		if n, fine := priceOf(l, t, one); fine && (!found || n < price) {
			r, price, found = one, n, true
		}
	}
	return r, price, found
}

func anySeason(r *rand.Rand, hours, most int) alarm.Season {
	s := alarm.Season{Fell: r.Intn(2) == 0}
	speed := r.Intn(most + 1)
	for range hours {
		switch r.Intn(4) {
		case 0:
			speed = r.Intn(most + 1)
		case 1:
			speed = min(speed+r.Intn(most/4+1), most)
		case 2:
			speed = max(speed-r.Intn(most/4+1), 0)
		}
		s.Speeds = append(s.Speeds, speed)
	}
	return s
}

func anyRule(r *rand.Rand, most int) alarm.Rule {
	x := alarm.Rule{Start: r.Intn(most + 1), Hold: 1 + r.Intn(6)}
	x.Back = r.Intn(x.Start + 1)
	return x
}

func anyTerms(r *rand.Rand, most int) alarm.Terms {
	return alarm.Terms{Out: r.Intn(6), Price: r.Intn(100), Hour: r.Intn(20), Less: r.Intn(most + 1), Hold: 1 + r.Intn(6)}
}

func anySeasons(r *rand.Rand, number, hours, most int) []alarm.Season {
	var l []alarm.Season
	for range number {
		l = append(l, anySeason(r, r.Intn(hours+1), most))
	}
	return l
}
