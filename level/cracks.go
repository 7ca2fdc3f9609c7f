package level

import (
	"cmp"

	"tarnfell/api"
)

// Cracks is described in doc/09-level.md, P210.
func Cracks(side int, l []api.Triangle) (int, api.Errno) {
	if _, is := exponent(side); !is {
		return 0, api.ErrRange
	}
	if len(l) > api.MaxTriangles {
		return 0, api.ErrLarge
	}
	if e := checkTriangles(side, l); e != api.OK {
		return 0, e
	}
	corners := make([]int, side*side)
	for _, t := range l {
		for _, p := range [3]api.Point{t.A, t.B, t.C} {
			corners[p.Y*side+p.X]++
		}
	}
	cracks := 0
	for _, t := range l {
		for _, s := range [3][2]api.Point{{t.A, t.B}, {t.B, t.C}, {t.C, t.A}} {
			inside(s[0], s[1], func(p api.Point) { cracks += corners[p.Y*side+p.X] })
		}
	}
	return cracks, api.OK
}

func checkTriangles(side int, l []api.Triangle) api.Errno {
	known := map[api.Triangle]bool{}
	for _, t := range everyTriangle(side - 1) {
		known[t] = true
	}
	cells := api.Region{W: side, H: side}
	for _, t := range l {
		if e := checkInside(cells, t.A, t.B, t.C); e != api.OK {
			return e
		}
		if !known[t] {
			return api.ErrForm
		}
	}
	return api.OK
}

// inside visits the cells inside of a side of a triangle, which goes along a row, a column, or both at once.
func inside(from, to api.Point, visit func(p api.Point)) {
	dx, dy := cmp.Compare(to.X, from.X), cmp.Compare(to.Y, from.Y)
	for p := (api.Point{X: from.X + dx, Y: from.Y + dy}); p != to; p = (api.Point{X: p.X + dx, Y: p.Y + dy}) {
		visit(p)
	}
}
