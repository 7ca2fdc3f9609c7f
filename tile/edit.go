package tile

import (
	"math"
	"slices"

	"tarnfell/api"
	"tarnfell/field"
	"tarnfell/recipe"
	"tarnfell/shape"
)

// CheckEdit is described in doc/08-tile.md, P176.
func CheckEdit(e api.Edit) api.Errno {
	if !field.Within(e.Kind, api.EditRaise, api.EditSet) {
		return api.ErrKind
	}
	if bad := shape.CheckBrush(e.Brush); bad != api.OK {
		return bad
	}
	if bad := field.CheckHeights(e.Target); bad != api.OK {
		return bad
	}
	raises := e.Kind == api.EditRaise
	hasTarget := e.Kind == api.EditLevel || e.Kind == api.EditSet
	if !hasTarget && !isZero(e.Target) || !raises && !isZero(e.Brush.Height) {
		return api.ErrForm
	}
	return api.OK
}

// isZero reports false for -0, whose bits are others.
func isZero(v float32) bool { return math.Float32bits(v) == 0 }

// Box is described in doc/08-tile.md, P176.
func Box(e api.Edit) (api.Region, api.Errno) {
	if bad := CheckEdit(e); bad != api.OK {
		return api.Region{}, bad
	}
	return around(e.Brush, 0), api.OK
}

// around gives the box of a brush, grown by n: also of brushes that are wrong, which shape.Box does not, and beyond all places, where field.Grow ends.
func around(b api.Brush, n int) api.Region {
	side := 2*b.Radius - 1 + 2*n
	return api.Region{X: b.X - b.Radius + 1 - n, Y: b.Y - b.Radius + 1 - n, W: side, H: side}
}

// Reach is described in doc/08-tile.md, P177.
func Reach(l []api.Edit, k int) (api.Region, api.Errno) {
	if !field.Within(k, 0, len(l)-1) {
		return api.Region{}, api.ErrNone
	}
	return around(l[k].Brush, softens(l[k+1:])), api.OK
}

// Margin is described in doc/08-tile.md, P177.
func Margin(l []api.Edit) (int, api.Errno) { return softens(l), api.OK }

func softens(l []api.Edit) int {
	many := 0
	for _, e := range l {
		if e.Kind == api.EditSoften {
			many++
		}
	}
	return many
}

// Apply is described in doc/08-tile.md, P177.
func Apply(f api.Field, l []api.Edit) (api.Field, api.Errno) {
	if e := field.Check(f); e != api.OK {
		return api.Field{}, e
	}
	if e := checkEdits(l); e != api.OK {
		return api.Field{}, e
	}
	if min(f.W, f.H) <= 2*softens(l) {
		return api.Field{}, api.ErrEmpty
	}
	f.V = slices.Clone(f.V)
	for _, e := range l {
		f = edited(f, e)
	}
	// Each edit adds at most MaxHeight, so that all values on the way are finite.
	if e := field.CheckHeights(f.V...); e != api.OK {
		return api.Field{}, e
	}
	return f, api.OK
}

func checkEdits(l []api.Edit) api.Errno {
	if len(l) > api.MaxEdits {
		return api.ErrLarge
	}
	for _, e := range l {
		if bad := CheckEdit(e); bad != api.OK {
			return bad
		}
	}
	return api.OK
}

// edited writes into f, but for EditSoften, which needs the neighbours as they were.
func edited(f api.Field, e api.Edit) api.Field {
	g := f
	if e.Kind == api.EditSoften {
		g = inner(f)
	}
	value := change(f, e)
	both, _ := field.Common(g.Region, around(e.Brush, 0))
	for y := both.Y; y < both.Y+both.H; y++ {
		for x := both.X; x < both.X+both.W; x++ {
			if weight, _ := shape.Weight(e.Brush, x, y); weight > 0 {
				g.V[field.Index(g.Region, x, y)] = value(field.Index(f.Region, x, y), weight)
			}
		}
	}
	return g
}

// change gives what an edit makes of the cell number i of f.
func change(f api.Field, e api.Edit) func(i int, weight float32) float32 {
	switch e.Kind {
	case api.EditRaise:
		return func(i int, weight float32) float32 { return f.V[i] + float32(e.Brush.Height*weight) }
	case api.EditLevel:
		return func(i int, weight float32) float32 { return field.Mix(f.V[i], e.Target, weight) }
	case api.EditSoften:
		return func(i int, weight float32) float32 { return field.Mix(f.V[i], mean(f, i), weight) }
	}
	return func(int, float32) float32 { return e.Target }
}

// mean is that of the four neighbours of a cell.
func mean(f api.Field, i int) float32 {
	n, s, w, e := f.V[i-f.W], f.V[i+f.W], f.V[i-1], f.V[i+1]
	return float32(((n + w) + (e + s)) * 0.25)
}

// inner gives the field without its edge. field.Cut would ask whether all values are heights, which they need not be on the way.
func inner(f api.Field) api.Field {
	g := blank(api.Region{X: f.X + 1, Y: f.Y + 1, W: f.W - 2, H: f.H - 2})
	lay(g, f)
	return g
}

func blank(r api.Region) api.Field { return api.Field{Region: r, V: make([]float32, r.W*r.H)} }

// lay writes the values of g into f, in the cells that both have.
func lay(f, g api.Field) {
	both, _ := field.Common(f.Region, g.Region)
	for y := both.Y; y < both.Y+both.H; y++ {
		to, from := field.Index(f.Region, both.X, y), field.Index(g.Region, both.X, y)
		copy(f.V[to:to+both.W], g.V[from:from+both.W])
	}
}

// Whole is described in doc/08-tile.md, P177.
func Whole(g api.Graph, l []api.Edit, r api.Region) (api.Field, api.Errno) {
	ofGraph, e := recipe.Margin(g)
	if e != api.OK {
		return api.Field{}, e
	}
	if e := checkEdits(l); e != api.OK {
		return api.Field{}, e
	}
	ofEdits := softens(l)
	if ofGraph+ofEdits > api.MaxMargin {
		return api.Field{}, api.ErrRange
	}
	if _, e := field.Grow(r, ofGraph+ofEdits); e != api.OK {
		return api.Field{}, e
	}
	at, _ := field.Grow(r, ofEdits)
	f, e := recipe.Eval(g, at)
	if e != api.OK {
		return api.Field{}, e
	}
	return Apply(f, l)
}
