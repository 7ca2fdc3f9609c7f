package level

import (
	"cmp"
	"slices"

	"tarnfell/api"
	"tarnfell/field"
	"tarnfell/water"
)

// knot is a crossed side: to which others it is joined, and whether it is on a curve so far.
type knot struct {
	joined [2]int
	many   int
	done   bool
}

// contour is the height h on a field. The sides of the cell number i have the numbers 2i (to the right) and 2i + 1 (to the one below), which is the order of sides.
type contour struct {
	f     api.Field
	h     float32
	knots []knot
}

// Contour is described in doc/09-level.md, P218.
func Contour(f api.Field, h float32) ([]api.Curve, api.Errno) {
	if e := field.Check(f); e != api.OK {
		return nil, e
	}
	if e := field.CheckHeights(h); e != api.OK {
		return nil, e
	}
	if f.W == 1 || f.H == 1 {
		return nil, api.ErrEmpty
	}
	c := contour{f, h, make([]knot, 2*len(f.V))}
	for y := range f.H - 1 {
		for x := range f.W - 1 {
			c.joinIn(y*f.W + x)
		}
	}
	return c.curves(), api.OK
}

func (c contour) isHigh(i int) bool { return c.f.V[i] >= c.h }

// joinIn joins the crossed sides of the square whose first cell is the number i.
func (c contour) joinIn(i int) {
	below := i + c.f.W
	cells := [4]int{i, i + 1, below, below + 1}
	top, left, right, bottom := 2*i, 2*i+1, 2*(i+1)+1, 2*below
	corners := [4][2]int{{top, left}, {top, right}, {left, bottom}, {right, bottom}}
	var crossed []int
	for _, s := range [4]int{top, left, right, bottom} {
		if c.isCrossed(s) {
			crossed = append(crossed, s)
		}
	}
	switch len(crossed) {
	case 2:
		c.join(crossed[0], crossed[1])
	case 4:
		high := squareAt(c.f, i).mean() >= c.h
		for k, cell := range cells {
			if c.isHigh(cell) != high {
				c.join(corners[k][0], corners[k][1])
			}
		}
	}
}

// ends gives the numbers of the cells of a side.
func (c contour) ends(side int) (a, b int) {
	a = side / 2
	if side%2 == 0 {
		return a, a + 1
	}
	return a, a + c.f.W
}

func (c contour) isCrossed(side int) bool {
	a, b := c.ends(side)
	return c.isHigh(a) != c.isHigh(b)
}

func (c contour) join(s, t int) {
	for _, pair := range [2][2]int{{s, t}, {t, s}} {
		k := &c.knots[pair[0]]
		k.joined[k.many] = pair[1]
		k.many++
	}
}

// spot gives the place at which the height crosses a side.
func (c contour) spot(side int) api.Spot {
	a, b := c.ends(side)
	share := (c.h - c.f.V[a]) / (c.f.V[b] - c.f.V[a])
	p := water.Place(c.f.Region, a)
	spot := api.Spot{X: float32(p.X), Y: float32(p.Y)}
	if side%2 == 0 {
		spot.X += share
	} else {
		spot.Y += share
	}
	return spot
}

// curves follows the open curves from their ends ahead of the closed ones, which are what is left then.
func (c contour) curves() []api.Curve {
	type found struct {
		first int
		api.Curve
	}
	var all []found
	for _, many := range [2]int{1, 2} {
		for side, k := range c.knots {
			if k.many == many && !k.done {
				all = append(all, found{side, api.Curve{Spots: c.follow(side), Closed: many == 2}})
			}
		}
	}
	slices.SortFunc(all, func(a, b found) int { return cmp.Compare(a.first, b.first) })
	var l []api.Curve
	for _, v := range all {
		l = append(l, v.Curve)
	}
	return l
}

// follow gives the spots of a curve from a side on.
func (c contour) follow(side int) []api.Spot {
	var spots []api.Spot
	for side != none {
		c.knots[side].done = true
		spots = append(spots, c.spot(side))
		side = c.next(side)
	}
	return spots
}

// next gives the first one of the sides that are joined to one and that the curve has not reached.
func (c contour) next(side int) int {
	k, first := c.knots[side], none
	for _, s := range k.joined[:k.many] {
		if !c.knots[s].done && (first == none || s < first) {
			first = s
		}
	}
	return first
}
