package alarm_test

import (
	"math"
	"math/rand"
	"reflect"
	"slices"
	"testing"

	"sackung/alarm"
	"sackung/api"
)

func TestP4_1LevelsAndBreaksOfAny(t *testing.T) {
	r := chance()
	broken, whole := 0, 0
	for range 400 {
		p, reads := smallWork(r)
		k := knownOf(p, reads)
		if hour := k.breaks(); hour < len(reads) {
			broken++
			if n, e := alarm.Breaks(p, reads); n != hour || e != api.OK {
				t.Fatal(p, reads, n, e, hour)
			}
			if l, e := alarm.Levels(p, reads); len(l) != 0 || e != api.ErrFail {
				t.Fatal(p, reads, l, e)
			}
			continue
		}
		whole++
		if l, e := alarm.Levels(p, reads); !slices.Equal(l, k.states(p)) || e != api.OK {
			t.Fatal(p, reads, l, e, k.states(p))
		}
		if n, e := alarm.Breaks(p, reads); n != 0 || e != api.ErrNone {
			t.Fatal(p, reads, n, e)
		}
	}
	if broken < 50 || whole < 200 {
		t.Error("too few:", broken, whole)
	}
}

func TestP4_2FailedAndTruthOfAny(t *testing.T) {
	r := chance()
	for range 60 {
		p, reads := smallWork(r)
		k := knownOf(p, reads)
		l, e := alarm.Failed(p, reads)
		if want := api.OK; len(k.failed) == 0 {
			want = api.ErrFail
			if e != want || len(l) != 0 {
				t.Fatal(p, reads, l, e)
			}
		} else if e != want || !slices.Equal(l, k.failed) {
			t.Fatal(p, reads, l, e, k.failed)
		}
		for hour := range reads {
			for range 50 {
				speed := r.Intn(api.MaxSpeed + 1)
				if r.Intn(3) > 0 {
					speed = min(max(reads[hour][0]+r.Intn(13)-6, 0), api.MaxSpeed)
				}
				if k.speeds[hour][speed] {
					hasTruth(t, p, reads, hour, speed)
				} else {
					hasNoTruth(t, p, reads, hour, speed)
				}
			}
		}
	}
}

func TestP4_2ProveTruthOfAny(t *testing.T) {
	r := chance()
	proved, refuted := 0, 0
	for range 4000 {
		p, reads, failed, speeds := anyWork(r, 1+r.Intn(4), 1+r.Intn(5), 4, 4)
		switch r.Intn(4) {
		case 0:
			speeds[r.Intn(len(speeds))] += r.Intn(5) - 2
		case 1:
			reads[r.Intn(len(reads))][0]++
			reads[0][0] = min(reads[0][0], 2*api.MaxSpeed)
		case 2:
			failed = r.Intn(len(p.Errs)+3) - 2
		}
		want := isTruth(p, reads, failed, speeds)
		if alarm.ProveTruth(p, reads, failed, speeds) != want {
			t.Fatal(p, reads, failed, speeds, want)
		}
		if want {
			proved++
		} else {
			refuted++
		}
	}
	if proved < 1000 || refuted < 1000 {
		t.Error("too few:", proved, refuted)
	}
}

func TestP4_3SpellsOfAny(t *testing.T) {
	r := chance()
	for range 4000 {
		most := 1 + r.Intn(12)
		s, rule := anySeason(r, r.Intn(20), most), anyRule(r, most)
		if l, e := alarm.Spells(s, rule); !slices.Equal(l, spellsOf(s, rule)) || e != api.OK {
			t.Fatal(s, rule, l, e)
		}
	}
}

func TestP4_4PriceOfAny(t *testing.T) {
	r := chance()
	for range 4000 {
		most := 1 + r.Intn(12)
		l, terms, rule := anySeasons(r, 1+r.Intn(3), 12, most), anyTerms(r, most), anyRule(r, most)
		want, fine := priceOf(l, terms, rule)
		if n, inTime, e := alarm.Price(l, terms, rule); n != want || inTime != fine || e != api.OK {
			t.Fatal(l, terms, rule, n, inTime, e, want, fine)
		}
	}
}

func TestP4_5BestOfAny(t *testing.T) {
	r := chance()
	late := 0
	for range 150 {
		most := 4 + r.Intn(40)
		if r.Intn(4) == 0 {
			most = api.MaxSpeed
		}
		l, terms := anySeasons(r, 1+r.Intn(3), 12, most), anyTerms(r, most)
		want, price, found := bestOf(l, terms)
		rule, n, e := alarm.Best(l, terms)
		if rule != want || n != price || found != (e == api.OK) || !found && e != api.ErrLate {
			t.Fatal(l, terms, rule, n, e, want, price, found)
		}
		if !found {
			late++
		}
	}
	if late < 10 || late > 100 {
		t.Error("late:", late)
	}
}

// wideWork is a post up to the limits, with a truth.
func wideWork(r *rand.Rand) (alarm.Post, [][]int, int, []int) {
	return anyWork(r, 1+r.Intn(10), 1+r.Intn(60), 1+r.Intn(200), 1+r.Intn(200))
}

// levels are those of reads for which a truth is possible.
func levels(t *testing.T, p alarm.Post, reads [][]int) []alarm.State {
	t.Helper()
	l, e := alarm.Levels(p, reads)
	if e != api.OK || len(l) != len(reads) {
		t.Fatal(p, reads, l, e)
	}
	return l
}

func TestP4_6InTime(t *testing.T) {
	r := chance()
	calls, others := 0, 0
	for range 600 {
		p, reads, failed, truth := wideWork(r)
		p.Fall = min(max(slices.Max(truth)-r.Intn(30), 1), api.MaxSpeed)
		if !alarm.ProveTruth(p, reads, failed, truth) {
			t.Fatal("a truth:", p, reads, failed, truth)
		}
		l := levels(t, p, reads)
		for hour, speed := range truth {
			if speed < l[hour].Lo || l[hour].Hi < speed {
				t.Fatal(p, reads, failed, truth, hour, l[hour])
			}
			if l[hour].Level != alarm.Call {
				others++
			}
			if speed < p.Fall {
				continue
			}
			for before := max(hour-p.Out, 0); before <= hour; before++ {
				calls++
				if l[before].Level != alarm.Call {
					t.Fatal("no call:", p, reads, failed, truth, hour, before, l[before])
				}
			}
		}
		if l, e := alarm.Failed(p, reads); e != api.OK || !slices.Contains(l, failed) {
			t.Fatal(p, reads, failed, l, e)
		}
	}
	if calls < 1000 || others < 1000 {
		t.Error("too few:", calls, others)
	}
}

// cries asks whether a gauge agrees in a row with no speed with which two others agree.
func cries(p alarm.Post, row []int, gauge int) bool {
	denied := 0
	for other := range row {
		if other != gauge && !meet(p, row, gauge, other) {
			denied++
		}
	}
	return denied >= 2
}

func meet(p alarm.Post, row []int, a, b int) bool {
	for speed := 0; speed <= api.MaxSpeed; speed++ {
		if apart(row[a], speed) <= p.Errs[a] && apart(row[b], speed) <= p.Errs[b] {
			return true
		}
	}
	return false
}

// doubled has all gauges but one twice.
func doubled(p alarm.Post, reads [][]int, gauge int) (alarm.Post, [][]int) {
	others := func(row []int) []int {
		return slices.Repeat(slices.Delete(slices.Clone(row), gauge, gauge+1), 2)
	}
	p.Errs = others(p.Errs)
	var l [][]int
	for _, row := range reads {
		l = append(l, others(row))
	}
	return p, l
}

func TestP4_7NoLoneCry(t *testing.T) {
	r := chance()
	cried, broke := 0, 0
	for range 1500 {
		p, reads, _, _ := anyWork(r, 3+r.Intn(4), 1+r.Intn(8), 20, 20)
		if r.Intn(3) == 0 {
			reads[len(reads)-1][0] = r.Intn(2*api.MaxSpeed) - api.MaxSpeed/2
		}
		end, e := alarm.Breaks(p, reads)
		if e != api.OK {
			end = len(reads)
		}
		l := levels(t, p, reads[:end])
		for hour := range end {
			for gauge := range p.Errs {
				if !cries(p, reads[hour], gauge) {
					continue
				}
				cried++
				two, twice := doubled(p, reads, gauge)
				if others := levels(t, two, twice[:end]); !slices.Equal(l[hour:], others[hour:]) {
					t.Fatal(p, reads, hour, gauge, l, others)
				}
				if failed, e := alarm.Failed(p, reads[:end]); !slices.Equal(failed, []int{gauge}) || e != api.OK {
					t.Fatal(p, reads, hour, gauge, failed, e)
				}
				if end == len(reads) {
					continue
				}
				broke++
				if n, e := alarm.Breaks(two, twice); n != end || e != api.OK {
					t.Fatal(p, reads, hour, gauge, n, e, end)
				}
			}
		}
	}
	if cried < 300 || broke < 100 {
		t.Error("too few:", cried, broke)
	}
}

func TestP4_8EachEnd(t *testing.T) {
	r := chance()
	for range 60 {
		p, reads, _, _ := wideWork(r)
		for hour, x := range levels(t, p, reads) {
			hasTruth(t, p, reads, hour, x.Lo)
			hasTruth(t, p, reads, hour, x.Hi)
			for _, speed := range []int{x.Lo - 1, x.Hi + 1, x.Lo - 20, x.Hi + 20, 0, api.MaxSpeed} {
				if 0 <= speed && speed <= api.MaxSpeed && (speed < x.Lo || x.Hi < speed) {
					hasNoTruth(t, p, reads, hour, speed)
				}
			}
		}
	}
	for range 20 {
		p, reads, _, _ := anyWork(r, 2+r.Intn(2), 1+r.Intn(4), 9, 9)
		for hour, x := range levels(t, p, reads) {
			for speed := 0; speed <= api.MaxSpeed; speed++ {
				switch {
				case speed == x.Lo || speed == x.Hi:
					hasTruth(t, p, reads, hour, speed)
				case speed < x.Lo || x.Hi < speed:
					hasNoTruth(t, p, reads, hour, speed)
				}
			}
		}
	}
}

func TestP4_9OneMore(t *testing.T) {
	r := chance()
	broke, narrower := 0, 0
	for range 1500 {
		p, reads, _, truth := anyWork(r, 1+r.Intn(9), 1+r.Intn(12), 20, 20)
		l := levels(t, p, reads)
		more := p
		more.Errs = append(slices.Clone(p.Errs), r.Intn(21))
		rows := copied(reads)
		off := r.Intn(3)
		for hour := range rows {
			read := truth[hour] + r.Intn(2*more.Errs[len(p.Errs)]+1) - more.Errs[len(p.Errs)]
			if off == 0 {
				read += r.Intn(200)
			}
			rows[hour] = append(rows[hour], read)
		}
		if _, e := alarm.Breaks(more, rows); e == api.OK {
			broke++
			continue
		}
		for hour, x := range levels(t, more, rows) {
			if x.Lo < l[hour].Lo || x.Hi > l[hour].Hi || x.Level > l[hour].Level {
				t.Fatal(p, more, rows, hour, x, l[hour])
			}
			if x != l[hour] {
				narrower++
			}
		}
	}
	if broke < 50 || narrower < 1000 {
		t.Error("too few:", broke, narrower)
	}
}

func TestP4_10Alarms(t *testing.T) {
	r := chance()
	ended, on := 0, 0
	for range 3000 {
		most := 2 + r.Intn(api.MaxSpeed-1)
		s, rule := anySeason(r, r.Intn(61), most), anyRule(r, most)
		l, e := alarm.Spells(s, rule)
		if e != api.OK {
			t.Fatal(s, rule, e)
		}
		in := make([]int, len(s.Speeds))
		before := 0
		for _, x := range l {
			if x.From < before || x.To <= x.From || x.To > len(s.Speeds) || s.Speeds[x.From] < rule.Start {
				t.Fatal(s, rule, l)
			}
			for hour := x.From; hour < x.To; hour++ {
				in[hour]++
			}
			before = x.To
			if x.To == len(s.Speeds) {
				on++
				continue
			}
			ended++
			if x.To-x.From < rule.Hold || s.Speeds[x.To] >= rule.Back {
				t.Fatal(s, rule, l)
			}
			if slices.Min(append([]int{rule.Back}, s.Speeds[x.From+rule.Hold:x.To]...)) < rule.Back {
				t.Fatal("it ends before:", s, rule, l)
			}
		}
		for hour, speed := range s.Speeds {
			if in[hour] > 1 || speed >= rule.Start && in[hour] != 1 {
				t.Fatal(s, rule, l, hour)
			}
		}
	}
	if ended < 1000 || on < 500 {
		t.Error("too few:", ended, on)
	}
}

func TestP4_11TheBestRule(t *testing.T) {
	r := chance()
	found := 0
	for range 60 {
		most := 2 + r.Intn(api.MaxSpeed-1)
		l, terms := anySeasons(r, 1+r.Intn(10), 60, most), anyTerms(r, most)
		rule, price, e := alarm.Best(l, terms)
		if e == api.OK {
			found++
			if n, fine, _ := alarm.Price(l, terms, rule); n != price || !fine || rule != ruleOf(terms, rule.Start) {
				t.Fatal(l, terms, rule, price, n, fine)
			}
		} else if e != api.ErrLate {
			t.Fatal(l, terms, e)
		}
		for start := 0; start <= api.MaxSpeed; start++ {
			n, fine, _ := alarm.Price(l, terms, ruleOf(terms, start))
			if fine && (e == api.ErrLate || n < price || n == price && start > rule.Start) {
				t.Fatal(l, terms, rule, price, start, n, e)
			}
		}
	}
	if found < 20 {
		t.Error("too few:", found)
	}
}

func TestP4_12SoonerLevels(t *testing.T) {
	r := chance()
	higher := 0
	for range 400 {
		p, reads, _, _ := wideWork(r)
		later := p
		later.Out = p.Out + r.Intn(api.MaxHours-p.Out+1)
		l := levels(t, later, reads)
		for hour, x := range levels(t, p, reads) {
			if l[hour].Level < x.Level || l[hour].Lo != x.Lo || l[hour].Hi != x.Hi {
				t.Fatal(p, later, reads, hour, x, l[hour])
			}
			if l[hour].Level > x.Level {
				higher++
			}
		}
	}
	if higher < 100 {
		t.Error("too few:", higher)
	}
}

func TestP4_12SoonerRules(t *testing.T) {
	r := chance()
	late, dearer := 0, 0
	for range 300 {
		most := 2 + r.Intn(api.MaxSpeed-1)
		l, terms := anySeasons(r, 1+r.Intn(3), 20, most), anyTerms(r, most)
		sooner := terms
		sooner.Out += r.Intn(12)
		rule := anyRule(r, most)
		price, fine, _ := alarm.Price(l, terms, rule)
		other, also, e := alarm.Price(l, sooner, rule)
		if e != api.OK || other != price || also && !fine {
			t.Fatal(l, terms, sooner, rule, price, fine, other, also, e)
		}
		if fine && !also {
			late++
		}
		_, price, e = alarm.Best(l, terms)
		_, other, then := alarm.Best(l, sooner)
		if then == api.OK && (e != api.OK || other < price) {
			t.Fatal(l, terms, sooner, price, e, other, then)
		}
		if other > price {
			dearer++
		}
	}
	if late < 5 || dearer < 20 {
		t.Error("too few:", late, dearer)
	}
}

// spare is a copy with numbers behind its end, which no call may change.
func spare(l []int) []int { return append(slices.Clone(l), 77, 78)[:len(l)] }

// lent are arguments of all calls, with memory behind their lists.
type lent struct {
	p       alarm.Post
	reads   [][]int
	speeds  []int
	seasons []alarm.Season
}

func anyLent(r *rand.Rand) lent {
	p, reads := smallWork(r)
	p.Errs = spare(p.Errs)
	x := lent{p: p, seasons: anySeasons(r, 1+r.Intn(3), 12, 20)}
	for _, row := range reads {
		x.reads = append(x.reads, spare(row))
		x.speeds = append(x.speeds, max(row[0], 0))
	}
	x.speeds = spare(x.speeds)
	x.reads = append(x.reads, []int{7}, []int{8})[:len(x.reads)]
	for i := range x.seasons {
		x.seasons[i].Speeds = spare(x.seasons[i].Speeds)
	}
	x.seasons = append(x.seasons, alarm.Season{Fell: true})[:len(x.seasons)]
	return x
}

// whole is all that the arguments have, with what lies behind their lists.
func (x lent) whole() []any {
	behind := func(l []int) []int { return slices.Clone(l[:cap(l)]) }
	out := []any{behind(x.p.Errs), behind(x.speeds), len(x.reads), len(x.seasons)}
	for _, row := range x.reads[:cap(x.reads)] {
		out = append(out, behind(row), len(row))
	}
	for _, s := range x.seasons[:cap(x.seasons)] {
		out = append(out, behind(s.Speeds), len(s.Speeds), s.Fell)
	}
	return out
}

func (x lent) results() []any {
	var out []any
	keep := func(l ...any) { out = append(out, l...) }
	states, e1 := alarm.Levels(x.p, x.reads)
	hour, e2 := alarm.Breaks(x.p, x.reads)
	gauges, e3 := alarm.Failed(x.p, x.reads)
	keep(alarm.CheckPost(x.p), states, e1, hour, e2, gauges, e3, alarm.ProveTruth(x.p, x.reads, -1, x.speeds))
	for hour := range x.reads {
		failed, speeds, e := alarm.Truth(x.p, x.reads, hour, x.speeds[hour])
		keep(failed, speeds, e)
	}
	rule, terms := alarm.Rule{Start: 9, Back: 4, Hold: 2}, alarm.Terms{Out: 1, Price: 9, Hour: 2, Less: 3, Hold: 2}
	spells, e4 := alarm.Spells(x.seasons[0], rule)
	price, fine, e5 := alarm.Price(x.seasons, terms, rule)
	best, least, e6 := alarm.Best(x.seasons, terms)
	keep(spells, e4, price, fine, e5, best, least, e6)
	return out
}

func TestR4ArgumentsStayAndResultsAreTheSameAgain(t *testing.T) {
	r := chance()
	for range 300 {
		x := anyLent(r)
		before := x.whole()
		first := x.results()
		if !reflect.DeepEqual(before, x.whole()) {
			t.Fatal("changed:", x)
		}
		anyLent(r).results()
		if !reflect.DeepEqual(first, x.results()) {
			t.Fatal("not the same again:", x)
		}
	}
}

func TestR4ResultsShareNoMemory(t *testing.T) {
	p, reads := trio(), stuck()
	states, _ := alarm.Levels(p, reads)
	gauges, _ := alarm.Failed(p, reads)
	_, speeds, _ := alarm.Truth(p, reads, 2, 15)
	spells, _ := alarm.Spells(dusk(true), alarm.Rule{Start: 10, Back: 6, Hold: 2})
	for i := range states {
		states[i] = alarm.State{}
	}
	for _, l := range [][]int{gauges, speeds} {
		for i := range l {
			l[i] = 99
		}
	}
	for i := range spells {
		spells[i] = alarm.Spell{}
	}
	if !reflect.DeepEqual(p, trio()) || !reflect.DeepEqual(reads, stuck()) {
		t.Error("an argument changed:", p, reads)
	}
	TestP4_1LevelsOfExamples(t)
	TestP4_2Failed(t)
	TestP4_2Truth(t)
	TestP4_3Spells(t)
}

func TestR3NilListsAreEmptyOnes(t *testing.T) {
	p, rule := trio(), alarm.Rule{Start: 10, Hold: 1}
	for _, reads := range [][][]int{nil, {}} {
		for _, speeds := range [][]int{nil, {}} {
			if !alarm.ProveTruth(p, reads, -1, speeds) {
				t.Error(reads, speeds)
			}
		}
	}
	for _, speeds := range [][]int{nil, {}} {
		s := alarm.Season{Speeds: speeds, Fell: true}
		if l, e := alarm.Spells(s, rule); len(l) != 0 || e != api.OK {
			t.Error(l, e)
		}
		if n, fine, e := alarm.Price([]alarm.Season{s}, dear(), rule); n != 0 || fine || e != api.OK {
			t.Error(n, fine, e)
		}
	}
	for _, errs := range [][]int{nil, {}} {
		if e := alarm.CheckPost(alarm.Post{Errs: errs, Fall: 1}); e != api.ErrArg {
			t.Error(e)
		}
	}
	for _, row := range [][]int{nil, {}} {
		if _, e := alarm.Levels(p, [][]int{row}); e != api.ErrRange {
			t.Error(e)
		}
	}
}

func TestP1LimitsAtOnce(t *testing.T) {
	r := chance()
	for range 20 {
		p, reads, failed, truth := anyWork(r, 10, 60, 1000, 200)
		levels(t, p, reads)
		hasTruth(t, p, reads, 59, truth[59])
		if !alarm.ProveTruth(p, reads, failed, truth) {
			t.Fatal(p, reads, failed, truth)
		}
	}
	var l []alarm.Season
	for range 10 {
		l = append(l, anySeason(r, 60, api.MaxSpeed))
	}
	if _, _, e := alarm.Best(l, alarm.Terms{Out: 1, Price: 1000, Hour: 1000, Less: 300, Hold: 1}); e != api.OK {
		t.Error(e)
	}
}

func TestP1AnyArguments(t *testing.T) {
	r := chance()
	numbers := []int{math.MinInt, math.MinInt + 1, -1001, -1, 0, 1, 2, 60, 61, 1000, 1001, 2000, 2001, math.MaxInt - 1, math.MaxInt}
	any := func() int { return numbers[r.Intn(len(numbers))] }
	list := func() []int {
		l := make([]int, r.Intn(4))
		for i := range l {
			l[i] = any()
		}
		return l
	}
	for range 20000 {
		p := alarm.Post{Errs: list(), Gain: any(), Drop: any(), Fall: any(), Out: any(), Ahead: any()}
		if r.Intn(2) == 0 {
			p = trio()
			p.Errs = p.Errs[:1+r.Intn(3)]
		}
		reads := [][]int{list(), list()}[:r.Intn(3)]
		alarm.CheckPost(p)
		alarm.Levels(p, reads)
		alarm.Breaks(p, reads)
		alarm.Failed(p, reads)
		alarm.ProveTruth(p, reads, any(), list())
		alarm.Truth(p, reads, any(), any())
		seasons := []alarm.Season{{Speeds: list()}, {Speeds: list(), Fell: true}}[:r.Intn(3)]
		rule := alarm.Rule{Start: any(), Back: any(), Hold: any()}
		alarm.Spells(alarm.Season{Speeds: list()}, rule)
		alarm.Price(seasons, alarm.Terms{Out: any(), Price: any(), Hour: any(), Less: any(), Hold: any()}, rule)
		if r.Intn(20) == 0 {
			alarm.Best(seasons, alarm.Terms{Out: any(), Price: any(), Hour: any(), Less: any(), Hold: any()})
		}
	}
}
