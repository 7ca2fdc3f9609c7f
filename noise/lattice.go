package noise

import (
	"math"

	"tarnfell/api"
	"tarnfell/field"
)

// directions are those of the gradients at the corners of a lattice.
var directions = [8][2]int{{1, 0}, {1, 1}, {0, 1}, {-1, 1}, {-1, 0}, {-1, -1}, {0, -1}, {1, -1}}

// spot is where a place lies in a lattice: in column i and row j, at the shares s and t of its cell.
type spot struct {
	i, j int
	s, t float32
}

func locate(x, y, cell int) spot {
	i, s := field.Divide(x, cell)
	j, t := field.Divide(y, cell)
	return spot{i, j, s, t}
}

// blend mixes what the four corners of the lattice cell have.
func (p spot) blend(corner func(k, l int) float32) float32 {
	u := ease(p.s)
	upper := field.Mix(corner(p.i, p.j), corner(p.i+1, p.j), u)
	lower := field.Mix(corner(p.i, p.j+1), corner(p.i+1, p.j+1), u)
	return field.Mix(upper, lower, ease(p.t))
}

func checkLattice(x, y, cell int) api.Errno {
	if e := CheckPlace(x, y); e != api.OK {
		return e
	}
	if !field.Within(cell, 1, api.MaxLattice) {
		return api.ErrRange
	}
	return api.OK
}

// Value is described in doc/02-noise.md, P27.
func Value(seed uint32, x, y, cell int) (float32, api.Errno) {
	if e := checkLattice(x, y, cell); e != api.OK {
		return 0, e
	}
	return value(seed, x, y, cell), api.OK
}

func value(seed uint32, x, y, cell int) float32 {
	return locate(x, y, cell).blend(func(k, l int) float32 { return Signed(Hash(seed, k, l, forValue)) })
}

// Gradient is described in doc/02-noise.md, P27.
func Gradient(seed uint32, x, y, cell int) (float32, api.Errno) {
	if e := checkLattice(x, y, cell); e != api.OK {
		return 0, e
	}
	return gradient(seed, x, y, cell), api.OK
}

func gradient(seed uint32, x, y, cell int) float32 {
	p := locate(x, y, cell)
	return p.blend(func(k, l int) float32 {
		g := directions[Hash(seed, k, l, forDirection)%8]
		dx, dy := p.s-float32(k-p.i), p.t-float32(l-p.j)
		return float32(float32(g[0])*dx) + float32(float32(g[1])*dy)
	})
}

// Cells is described in doc/02-noise.md, P28.
func Cells(seed uint32, x, y, cell int) (near, next float32, at api.Point, e api.Errno) {
	if e := checkLattice(x, y, cell); e != api.OK {
		return 0, 0, api.Point{}, e
	}
	near, next, at = cells(seed, x, y, cell)
	return near, next, at, api.OK
}

func cells(seed uint32, x, y, cell int) (near, next float32, at api.Point) {
	place := api.Point{X: x, Y: y}
	first, second := math.MaxInt, math.MaxInt
	for _, c := range centresAround(seed, x, y, cell) {
		d := Square(place, c)
		switch {
		case d < first:
			first, second, at = d, first, c
		case d < second:
			second = d
		}
	}
	return inCells(first, cell), inCells(second, cell), at
}

// centresAround gives the centres of the lattice cell of a place and of those around it, row by row.
func centresAround(seed uint32, x, y, cell int) [9]api.Point {
	p := locate(x, y, cell)
	var centres [9]api.Point
	for n := range centres {
		centres[n] = centre(seed, p.i+n%3-1, p.j+n/3-1, cell)
	}
	return centres
}

func centre(seed uint32, i, j, cell int) api.Point {
	a := Hash(seed, i, j, forCentreX) % uint32(cell)
	b := Hash(seed, i, j, forCentreY) % uint32(cell)
	return api.Point{X: i*cell + int(a), Y: j*cell + int(b)}
}

// Square is that of the distance of two places. It is no part of doc/02-noise.md: later chapters need it as this one does.
func Square(a, b api.Point) int {
	dx, dy := a.X-b.X, a.Y-b.Y
	return dx*dx + dy*dy
}

// inCells gives the distance of a square as a multiple of the spacing.
func inCells(square, cell int) float32 {
	return field.Root(float32(square)) / float32(cell)
}
