package road

import (
	"tarnfell/api"
	"tarnfell/field"
	"tarnfell/water"
)

// step is one of a way: over n steps of chapter 4 in the direction d; a bridge, if these are several.
type step struct{ d, n int }

// stepTo gives the step from a place to another one, and whether this lies in a direction.
func stepTo(from, to api.Point) (step, bool) {
	n := max(to.X-from.X, from.X-to.X, to.Y-from.Y, from.Y-to.Y)
	for d := range water.Directions {
		if n > 0 && water.Onward(from, d, n) == to {
			return step{d, n}, true
		}
	}
	return step{}, false
}

func (s step) isBridge() bool { return s.n > 1 }

func (s step) length() float32 { return float32(float32(s.n) * water.Length(s.d)) }

// grade is that of a step between two heights.
func (s step) grade(a, b float32) float32 { return max(b-a, a-b) / s.length() }

// StepCost is described in doc/05-road.md, P101.
func StepCost(f api.Field, s api.RoadRules, a, b api.Point) (float32, bool, api.Errno) {
	g, e := groundOf(f, s, a, b)
	if e != api.OK {
		return 0, false, e
	}
	cost, possible := g.costTo(a, b)
	return cost, possible, api.OK
}

// costTo gives what it costs to go from a place to another one at once, and whether this is possible.
func (g ground) costTo(from, to api.Point) (float32, bool) {
	s, is := stepTo(from, to)
	if !is {
		return 0, false
	}
	return g.cost(number(g.Field, from), number(g.Field, to), s)
}

// cost is that of the step from the cell number i to the cell number k.
func (g ground) cost(i, k int, s step) (float32, bool) {
	grade := s.grade(g.V[i], g.V[k])
	switch {
	case grade > g.Grade:
		return 0, false
	case !s.isBridge():
		return g.costOnGround(k, s, grade), true
	case s.n > g.Span || !g.isOpen(i, k, s.n):
		return 0, false
	}
	return float32(s.length()*g.Bridge) + g.Dear, true
}

func (g ground) costOnGround(k int, s step, grade float32) float32 {
	cost := float32(s.length() * (1 + float32(g.Weight*grade*grade)))
	for _, c := range g.Costly {
		cost = float32(cost * (1 + c.V[k]))
	}
	return cost
}

// isOpen reports whether all cells between two, n steps apart, are lower than both.
func (g ground) isOpen(i, k, n int) bool {
	lower, ahead := min(g.V[i], g.V[k]), (k-i)/n
	for between := i + ahead; between != k; between += ahead {
		if g.V[between] >= lower {
			return false
		}
	}
	return true
}

// steps visits the cells to which steps from the cell number i are possible.
func (g ground) steps(i int, visit func(k int, cost float32)) {
	p := water.Place(g.Region, i)
	for d := range water.Directions {
		for n := 1; n <= max(1, g.Span); n++ {
			to := water.Onward(p, d, n)
			if !field.Has(g.Region, to.X, to.Y) {
				break
			}
			k := number(g.Field, to)
			if cost, possible := g.cost(i, k, step{d, n}); possible {
				visit(k, cost)
			}
			// No bridge from here leads over a cell that is not lower.
			if g.V[k] >= g.V[i] {
				break
			}
		}
	}
}
