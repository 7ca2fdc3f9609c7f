package level

import (
	"slices"

	"tarnfell/api"
	"tarnfell/field"
	"tarnfell/water"
)

const maxLevels = 10

// Down is described in doc/09-level.md, P205.
func Down(f api.Field) (api.Field, api.Errno) {
	if e := field.Check(f); e != api.OK {
		return api.Field{}, e
	}
	if (f.X|f.Y|f.W|f.H)&1 != 0 {
		return api.Field{}, api.ErrForm
	}
	half := api.Region{X: f.X / 2, Y: f.Y / 2, W: f.W / 2, H: f.H / 2}
	return field.Make(half, func(x, y int) float32 {
		return squareAt(f, field.Index(f.Region, 2*x, 2*y)).mean()
	})
}

// cellOver gives the cell of a level that lies over a cell.
func cellOver(p api.Point, level int) api.Point {
	// A shift rounds down, where Go's division rounds towards 0.
	return api.Point{X: p.X >> level, Y: p.Y >> level}
}

// Up is described in doc/09-level.md, P205.
func Up(f api.Field, r api.Region) (api.Field, api.Errno) {
	if e := field.Check(f); e != api.OK {
		return api.Field{}, e
	}
	if e := field.CheckRegion(r); e != api.OK {
		return api.Field{}, e
	}
	first, last := api.Point{X: r.X, Y: r.Y}, api.Point{X: r.X + r.W - 1, Y: r.Y + r.H - 1}
	if e := checkInside(f.Region, cellOver(first, 1), cellOver(last, 1)); e != api.OK {
		return api.Field{}, e
	}
	return field.Make(r, func(x, y int) float32 { return valueAt(f, cellOver(api.Point{X: x, Y: y}, 1)) })
}

// Pyramid is described in doc/09-level.md, P206.
func Pyramid(f api.Field, many int) ([]api.Field, api.Errno) {
	if e := field.Check(f); e != api.OK {
		return nil, e
	}
	if !field.Within(many, 1, maxLevels) {
		return nil, api.ErrRange
	}
	l, e := levels(api.Field{Region: f.Region, V: slices.Clone(f.V)}, many)
	if e != api.OK {
		return nil, e
	}
	return l, api.OK
}

// levels gives so many levels of a field, which is the first one; if there are not so many, those that there are, and the error of the next one.
func levels(f api.Field, many int) ([]api.Field, api.Errno) {
	l := []api.Field{f}
	for len(l) < many {
		half, e := Down(l[len(l)-1])
		if e != api.OK {
			return l, e
		}
		l = append(l, half)
	}
	return l, api.OK
}

// Losses is described in doc/09-level.md, P206.
func Losses(f api.Field, many int) ([]float32, api.Errno) {
	l, e := Pyramid(f, many)
	if e != api.OK {
		return nil, e
	}
	losses := lossesOf(l)
	if e := field.CheckHeights(losses...); e != api.OK {
		return nil, e
	}
	return losses, api.OK
}

// lossesOf gives what each level loses of the first one. It need be no height.
func lossesOf(l []api.Field) []float32 {
	f, losses := l[0], make([]float32, len(l))
	for level, over := range l {
		for i, v := range f.V {
			lost := field.Magnitude(v - valueAt(over, cellOver(water.Place(f.Region, i), level)))
			losses[level] = max(losses[level], lost)
		}
	}
	return losses
}
