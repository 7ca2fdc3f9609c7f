package shape

import (
	"tarnfell/api"
	"tarnfell/field"
)

// Directions of Aspect.
const (
	east = iota
	southEast
	south
	southWest
	west
	northWest
	north
	northEast
	flat = -1
)

// rise tells by how much the ground rises to the east and to the south.
func (c cross) rise() (dx, dy float32) { return (c.e - c.w) * 0.5, (c.s - c.n) * 0.5 }

// square is that of the rise along the slope.
func (c cross) square() float32 {
	dx, dy := c.rise()
	return float32(dx*dx) + float32(dy*dy)
}

func (c cross) slope() float32 { return field.Root(c.square()) }

func (c cross) curve() float32 { return float32((c.n+c.s+c.e+c.w)*0.25) - c.v }

func (c cross) normal() (nx, ny, nz float32) {
	dx, dy := c.rise()
	m := field.Root(c.square() + 1)
	return -dx / m, -dy / m, 1 / m
}

// aspect takes a direction for one of the four main ones up to a slant of 2 to 5.
func (c cross) aspect() int {
	dx, dy := c.rise()
	a, b := -dx, -dy
	switch {
	case a == 0 && b == 0:
		return flat
	case field.Magnitude(b)*2.5 <= field.Magnitude(a):
		return choose(a > 0, east, west)
	case field.Magnitude(a)*2.5 <= field.Magnitude(b):
		return choose(b > 0, south, north)
	case b > 0:
		return choose(a > 0, southEast, southWest)
	}
	return choose(a > 0, northEast, northWest)
}

func choose(first bool, a, b int) int {
	if first {
		return a
	}
	return b
}

// Slope is described in doc/03-shape.md, P45.
func Slope(f api.Field) (api.Field, api.Errno) { return look(f, cross.slope) }

// Curve is described in doc/03-shape.md, P45.
func Curve(f api.Field) (api.Field, api.Errno) { return look(f, cross.curve) }

func look(f api.Field, at func(c cross) float32) (api.Field, api.Errno) {
	r, e := inner(f)
	if e != api.OK {
		return api.Field{}, e
	}
	return field.Make(r, func(x, y int) float32 { return at(crossAt(f, x, y)) })
}

// Aspect is described in doc/03-shape.md, P45.
func Aspect(f api.Field) ([]int, api.Region, api.Errno) {
	r, e := inner(f)
	if e != api.OK {
		return nil, api.Region{}, e
	}
	return each(r, func(x, y int) int { return crossAt(f, x, y).aspect() }), r, api.OK
}

// Normal is described in doc/03-shape.md, P45.
func Normal(f api.Field, x, y int) (nx, ny, nz float32, e api.Errno) {
	r, e := inner(f)
	if e != api.OK {
		return 0, 0, 0, e
	}
	if !field.Has(r, x, y) {
		return 0, 0, 0, api.ErrPlace
	}
	nx, ny, nz = crossAt(f, x, y).normal()
	return nx, ny, nz, api.OK
}

// Shade is described in doc/03-shape.md, P46.
func Shade(f api.Field, lx, ly, lz int) (api.Field, api.Errno) {
	r, e := inner(f)
	if e != api.OK {
		return api.Field{}, e
	}
	if e := checkDirection(lx, ly, lz); e != api.OK {
		return api.Field{}, e
	}
	m := length(lx, ly, lz)
	return field.Make(r, func(x, y int) float32 {
		nx, ny, nz := crossAt(f, x, y).normal()
		light := float32(nx*float32(lx)) + float32(ny*float32(ly)) + float32(nz*float32(lz))
		return max(0, light/m)
	})
}

// Steepest is described in doc/03-shape.md, P51.
func Steepest(f api.Field) (float32, api.Errno) {
	if e := field.Check(f); e != api.OK {
		return 0, e
	}
	var most float32
	for i, v := range f.V {
		if (i+1)%f.W != 0 {
			most = max(most, field.Magnitude(f.V[i+1]-v))
		}
		if i+f.W < len(f.V) {
			most = max(most, field.Magnitude(f.V[i+f.W]-v))
		}
	}
	if most > api.MaxHeight {
		return 0, api.ErrRange
	}
	return most, api.OK
}
