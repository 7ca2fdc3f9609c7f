package level

import (
	"tarnfell/api"
	"tarnfell/field"
	"tarnfell/noise"
	"tarnfell/water"
)

// far is the greatest difference of the coordinates of two cells.
func far(a, b api.Point) int { return max(b.X-a.X, a.X-b.X, b.Y-a.Y, a.Y-b.Y) }

// onLine gives the cell number i of n, which is above 0, on the line from a to b.
func onLine(a, b api.Point, i, n int) api.Point {
	x, _ := field.Divide(2*i*(b.X-a.X)+n, 2*n)
	y, _ := field.Divide(2*i*(b.Y-a.Y)+n, 2*n)
	return api.Point{X: a.X + x, Y: a.Y + y}
}

// line gives the cells from a to b.
func line(a, b api.Point) []api.Point {
	n := far(a, b)
	l := append(make([]api.Point, 0, n+1), a)
	for i := range n {
		l = append(l, onLine(a, b, i+1, n))
	}
	return l
}

// Line is described in doc/09-level.md, P214.
func Line(a, b api.Point) ([]api.Point, api.Errno) {
	for _, p := range [2]api.Point{a, b} {
		if e := noise.CheckPlace(p.X, p.Y); e != api.OK {
			return nil, e
		}
	}
	if far(a, b) >= api.MaxCells {
		return nil, api.ErrLarge
	}
	return line(a, b), api.OK
}

// Profile is described in doc/09-level.md, P217.
func Profile(f api.Field, a, b api.Point) ([]float32, api.Errno) {
	if e := field.Check(f); e != api.OK {
		return nil, e
	}
	if e := checkInside(f.Region, a, b); e != api.OK {
		return nil, e
	}
	cells := line(a, b)
	values := make([]float32, len(cells))
	for i, p := range cells {
		values[i] = valueAt(f, p)
	}
	return values, api.OK
}

// viewer is somebody at a cell of a field, whose eye is at the height h, which need be none of G7.
type viewer struct {
	f  api.Field
	at api.Point
	h  float32
}

// viewerOf gives the errors of all functions with eyes. The places must be in the field; the viewer is at the first one.
func viewerOf(f api.Field, eye float32, places ...api.Point) (viewer, api.Errno) {
	if e := field.Check(f); e != api.OK {
		return viewer{}, e
	}
	if e := field.CheckWithin(eye, 0, api.MaxHeight); e != api.OK {
		return viewer{}, e
	}
	if e := checkInside(f.Region, places...); e != api.OK {
		return viewer{}, e
	}
	return viewer{f, places[0], valueAt(f, places[0]) + eye}, api.OK
}

func (a viewer) sees(b api.Point) bool {
	n, ground := far(a.at, b), valueAt(a.f, b)
	for i := 1; i < n; i++ {
		sight := field.Mix(a.h, ground, float32(i)/float32(n))
		if valueAt(a.f, onLine(a.at, b, i, n)) > sight {
			return false
		}
	}
	return true
}

// Sees is described in doc/09-level.md, P215.
func Sees(f api.Field, a, b api.Point, eye float32) (bool, api.Errno) {
	v, e := viewerOf(f, eye, a, b)
	if e != api.OK {
		return false, e
	}
	return v.sees(b), api.OK
}

// View is described in doc/09-level.md, P215.
func View(f api.Field, a api.Point, eye float32, most int) ([]bool, api.Errno) {
	v, e := viewerOf(f, eye, a)
	if e != api.OK {
		return nil, e
	}
	if !field.Within(most, 0, api.MaxSide) {
		return nil, api.ErrRange
	}
	seen := make([]bool, len(f.V))
	for i := range seen {
		b := water.Place(f.Region, i)
		seen[i] = far(a, b) <= most && v.sees(b)
	}
	return seen, api.OK
}

// Horizon is described in doc/09-level.md, P216.
func Horizon(f api.Field, a api.Point, eye float32, dir int) (float32, bool, api.Errno) {
	v, e := viewerOf(f, eye, a)
	if e != api.OK {
		return 0, false, e
	}
	if !field.Within(dir, 0, water.Directions-1) {
		return 0, false, api.ErrRange
	}
	most, some := float32(0), false
	for steps := 1; ; steps++ {
		p := water.Onward(a, dir, steps)
		if !field.Has(f.Region, p.X, p.Y) {
			return most, some, api.OK
		}
		rise := (valueAt(f, p) - v.h) / float32(float32(steps)*water.Length(dir))
		if some {
			rise = field.Greater(most, rise)
		}
		most, some = rise, true
	}
}
