package alarm

import (
	"iter"
	"slices"

	"sackung/api"
)

// none is the number that stands for no gauge.
const none = -1

// ends are a least and a greatest number. The speeds that truths have in an hour are all those between their ends, as long as it is known which gauge has failed: the speeds of the hour before have no gap, a rise leaves none, and each gauge takes some off the ends alone.
type ends [2]int

func (x ends) has(number int) bool { return x[0] <= number && number <= x[1] }

// nothing has the ends of no number at all.
func nothing() ends { return ends{1, 0} }

func (x ends) meet(y ends) ends {
	met := ends{max(x[0], y[0]), min(x[1], y[1])}
	if met[0] > met[1] {
		return nothing()
	}
	return met
}

func leastAndGreatest(speeds ...int) ends { return ends{slices.Min(speeds), slices.Max(speeds)} }

// duty is a post at work. By the gauge that has failed, or none, it keeps what may be in each hour, as long as a truth is possible.
type duty struct {
	Post
	may map[int][]ends
}

func (p Post) onDuty(reads [][]int) duty {
	d := duty{Post: p, may: map[int][]ends{}}
	for failed := none; failed < len(p.Errs); failed++ {
		d.may[failed] = p.follow(reads, failed)
	}
	return d
}

func (p Post) follow(reads [][]int, failed int) []ends {
	var may []ends
	now := ends{0, api.MaxSpeed}
	for _, row := range reads {
		now = ends{0, api.MaxSpeed}.meet(p.after(now))
		for _, gauge := range p.working(failed) {
			now = now.meet(p.agreeing(gauge, row))
		}
		if now == nothing() {
			break
		}
		may = append(may, now)
	}
	return may
}

func (p Post) after(x ends) ends { return ends{x[0] - p.Drop, x[1] + p.Gain} }

func (p Post) before(x ends) ends { return ends{x[0] - p.Gain, x[1] + p.Drop} }

// agreeing are the ends of the speeds with which a gauge agrees.
func (p Post) agreeing(gauge int, row []int) ends {
	return ends{row[gauge] - p.Errs[gauge], row[gauge] + p.Errs[gauge]}
}

func (p Post) working(failed int) []int {
	var gauges []int
	for gauge := range p.Errs {
		if gauge != failed {
			gauges = append(gauges, gauge)
		}
	}
	return gauges
}

// failures are the gauges, from none on, with each of which failed a truth is possible over so many rows, and what may be then.
func (d duty) failures(rows int) iter.Seq2[int, []ends] {
	return func(yield func(int, []ends) bool) {
		for failed := none; failed < len(d.Errs); failed++ {
			if may := d.may[failed]; len(may) >= rows && !yield(failed, may) {
				return
			}
		}
	}
}

func (d duty) possible(rows int) bool {
	for range d.failures(rows) {
		return true
	}
	return false
}

func (d duty) state(hour int) State {
	var speeds []int
	for _, may := range d.failures(hour + 1) {
		speeds = append(speeds, may[hour][0], may[hour][1])
	}
	known := leastAndGreatest(speeds...)
	return State{known[0], known[1], d.level(known[1])}
}

// back follows a speed of an hour back to the first hour; what may be has a speed before each one, as it was reached from there.
func (p Post) back(may []ends, hour, speed int) []int {
	var until func(hour, speed int) []int
	until = func(hour, speed int) []int {
		if hour == 0 {
			return []int{speed}
		}
		left := may[hour-1].meet(p.before(ends{speed, speed}))
		return append(until(hour-1, left[0]), speed)
	}
	return until(hour, speed)
}

// mayMove asks whether the speeds are a truth.
func (p Post) mayMove(speeds []int) bool {
	if !all(speeds, ends{0, api.MaxSpeed}.has) {
		return false
	}
	for hour := 1; hour < len(speeds); hour++ {
		was := speeds[hour-1]
		if !p.after(ends{was, was}).has(speeds[hour]) {
			return false
		}
	}
	return true
}

// agree asks whether all gauges but one that has failed agree with a truth.
func (p Post) agree(reads [][]int, failed int, speeds []int) bool {
	for hour, speed := range speeds {
		if !all(p.working(failed), moment{p, reads[hour], speed}.mayRead) {
			return false
		}
	}
	return true
}

// moment is an hour of a post, with its row and the speed that a truth has.
type moment struct {
	Post
	row   []int
	speed int
}

func (m moment) mayRead(gauge int) bool { return m.agreeing(gauge, m.row).has(m.speed) }
