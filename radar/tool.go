package radar

func (t Tool) sight(m Move) int { return t.A*m.X + t.B*m.Y }

func (s Survey) off(t Tool) int { return sum(t.Err, t.Drift*(s.Day-t.Since)) }

// turns returns the numbers of turns by which a tool agrees with a movement of its spot. If it agrees by none, the Lo is above the Hi.
func (s Survey) turns(tool int, m Move) Range {
	t := s.Tools[tool]
	gap, off := t.sight(m)-s.Reads[tool], s.off(t)
	near := Range{gap - off, gap + off}
	switch {
	case t.Turn > 0:
		return Range{-floor(-near.Lo, t.Turn), floor(near.Hi, t.Turn)}
	case near.has(0):
		return Range{0, 0}
	}
	return Range{0, -1}
}

func (s Survey) agrees(tool int, m Move) bool {
	turns := s.turns(tool, m)
	return turns.Lo <= turns.Hi
}

// floor divides by a number above 0, and rounds down, also below 0.
func floor(number, by int) int {
	if number%by < 0 {
		return number/by - 1
	}
	return number / by
}

func sum(numbers ...int) int {
	total := 0
	for _, n := range numbers {
		total += n
	}
	return total
}
