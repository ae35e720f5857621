package radar

import (
	"maps"
	"slices"
)

// look is a survey that is looked through: of each spot, the movements are left that it has in some field which agrees.
type look struct {
	Survey
	left []moves
}

func (s Survey) look() look {
	l := look{Survey: s}
	for spot := range s.Spots {
		l.left = append(l.left, s.agreeing(spot))
	}
	l.settle()
	return l
}

// agreeing returns the movements of a spot with which its tools agree.
func (s Survey) agreeing(spot int) moves {
	found := moves{}
search:
	for m := range s.Spots[spot].moves() {
		for tool, t := range s.Tools {
			if t.Spot == spot && !s.agrees(tool, m) {
				continue search
			}
		}
		found[m] = true
	}
	return found
}

// beside returns the movements of a spot that Strain allows beside one of a spot next to it.
func (s Survey) beside(spot int, m Move) Spot {
	return Spot{s.Spots[spot].X.around(m.X, s.Strain), s.Spots[spot].Y.around(m.Y, s.Strain)}
}

// possible asks one spot alone: if no field agrees, nothing is left of any spot.
func (l look) possible() bool { return len(l.left[0]) > 0 }

// settle leaves the movements that fields have: on the way along the row those that a field may reach, and on the way back those from which it goes on.
func (l look) settle() {
	var follow func(spot int)
	follow = func(spot int) {
		if spot > 0 {
			l.keepBeside(spot, spot-1)
		}
		if spot < len(l.left)-1 {
			follow(spot + 1)
			l.keepBeside(spot, spot+1)
		}
	}
	follow(0)
}

func (l look) keepBeside(spot, other int) {
	others := slices.Collect(maps.Keys(l.left[other]))
	l.left[spot] = l.left[spot].kept(func(m Move) bool {
		return slices.ContainsFunc(others, l.beside(other, m).has)
	})
}

// with leaves the fields with which a tool agrees by a number of turns.
func (l look) with(tool, number int) look {
	spot := l.Tools[tool].Spot
	kept := l.left[spot].kept(func(m Move) bool { return l.turns(tool, m).has(number) })
	if len(kept) == len(l.left[spot]) {
		return l
	}
	l.left = slices.Clone(l.left)
	l.left[spot] = kept
	l.settle()
	return l
}
