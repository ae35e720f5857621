package alarm

func (s Season) spells(r Rule) []Spell {
	var spells []Spell
	for hour := 0; hour < len(s.Speeds); {
		if s.Speeds[hour] < r.Start {
			hour++
			continue
		}
		x := Spell{hour, s.end(r, hour)}
		spells = append(spells, x)
		hour = x.To
	}
	return spells
}

// end returns the To of the alarm that begins in an hour.
func (s Season) end(r Rule, from int) int {
	to := min(from+r.Hold, len(s.Speeds))
	for to < len(s.Speeds) && s.Speeds[to] >= r.Back {
		to++
	}
	return to
}

// last returns the alarm that is on at the end; the zero Spell, which has no hour, stands for none.
func (s Season) last(spells []Spell) Spell {
	for _, x := range spells {
		if x.To == len(s.Speeds) {
			return x
		}
	}
	return Spell{}
}

func (x Spell) hours() int { return x.To - x.From }

// season returns the price of a season, and whether it is in time.
func (t Terms) season(s Season, r Rule) (price int, inTime bool) {
	spells := s.spells(r)
	last := s.last(spells)
	for _, x := range spells {
		price += t.Hour * x.hours()
		if !s.Fell || x != last {
			price += t.Price
		}
	}
	return price, !s.Fell || last.hours() >= max(t.Out, 1)
}

func (t Terms) together(l []Season, r Rule) (price int, inTime bool) {
	inTime = true
	for _, s := range l {
		one, fine := t.season(s, r)
		price += one
		inTime = inTime && fine
	}
	return price, inTime
}

// rule returns the rule with a Start that Best tries.
func (t Terms) rule(start int) Rule { return Rule{start, max(start-t.Less, 0), t.Hold} }
