package shape

import (
	"slices"

	"tarnfell/api"
	"tarnfell/field"
	"tarnfell/noise"
)

// CheckBrush is described in doc/03-shape.md, P48.
func CheckBrush(b api.Brush) api.Errno {
	if !slices.Contains([]int{api.BrushFlat, api.BrushCone, api.BrushBell}, b.Kind) {
		return api.ErrKind
	}
	if e := noise.CheckPlace(b.X, b.Y); e != api.OK {
		return e
	}
	if !field.Within(b.Radius, 1, api.MaxBrush) {
		return api.ErrRange
	}
	return field.CheckHeights(b.Height)
}

// Weight is described in doc/03-shape.md, P48.
func Weight(b api.Brush, x, y int) (float32, api.Errno) {
	if e := CheckBrush(b); e != api.OK {
		return 0, e
	}
	if e := noise.CheckPlace(x, y); e != api.OK {
		return 0, e
	}
	return weight(b, x, y), api.OK
}

func weight(b api.Brush, x, y int) float32 {
	dx, dy := x-b.X, y-b.Y
	near, far := dx*dx+dy*dy, b.Radius*b.Radius
	switch {
	case near >= far:
		return 0
	case b.Kind == api.BrushCone:
		return 1 - field.Root(float32(near))/float32(b.Radius)
	case b.Kind == api.BrushBell:
		t := 1 - float32(near)/float32(far)
		return t * t
	}
	return 1
}

// Stamp is described in doc/03-shape.md, P48.
func Stamp(f api.Field, b api.Brush) (api.Field, api.Errno) {
	if e := field.Check(f); e != api.OK {
		return api.Field{}, e
	}
	if e := CheckBrush(b); e != api.OK {
		return api.Field{}, e
	}
	// Where the weight is 0 a zero is added all the same, which makes a 0 of a -0.
	return remade(f, func(v float32, x, y int) float32 { return v + float32(b.Height*weight(b, x, y)) })
}

// Box is described in doc/03-shape.md, P48.
func Box(b api.Brush) (api.Region, api.Errno) {
	if e := CheckBrush(b); e != api.OK {
		return api.Region{}, e
	}
	side := 2*b.Radius - 1
	return api.Region{X: b.X - b.Radius + 1, Y: b.Y - b.Radius + 1, W: side, H: side}, api.OK
}
