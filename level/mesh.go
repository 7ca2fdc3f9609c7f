package level

import (
	"slices"

	"tarnfell/api"
	"tarnfell/field"
)

// maxExponent is that of the greatest grid, which has 2^7 + 1 columns and rows.
const maxExponent = 7

// exponent gives the k for which a side has 2^k + 1 cells, and whether grids have such sides.
func exponent(side int) (int, bool) {
	for k := 1; k <= maxExponent; k++ {
		if side == 1<<k+1 {
			return k, true
		}
	}
	return 0, false
}

// CheckGrid is described in doc/09-level.md, P207.
func CheckGrid(f api.Field) (int, api.Errno) {
	if e := field.Check(f); e != api.OK {
		return 0, e
	}
	k, is := exponent(f.W)
	if !is || f.W != f.H {
		return 0, api.ErrForm
	}
	return k, api.OK
}

// firstTriangles cover the grid whose greatest column and row is n.
func firstTriangles(n int) [2]api.Triangle {
	right, below, opposite := api.Point{X: n}, api.Point{Y: n}, api.Point{X: n, Y: n}
	return [2]api.Triangle{{B: opposite, C: right}, {A: opposite, C: below}}
}

// middle gives that of the longest side, and whether it is a cell.
func middle(t api.Triangle) (api.Point, bool) {
	x, y := t.A.X+t.B.X, t.A.Y+t.B.Y
	return api.Point{X: x / 2, Y: y / 2}, x%2 == 0 && y%2 == 0
}

func parts(t api.Triangle, middle api.Point) [2]api.Triangle {
	return [2]api.Triangle{{A: t.C, B: t.A, C: middle}, {A: t.B, B: t.C, C: middle}}
}

// everyTriangle gives the first ones and all into which they can be divided, the larger ones ahead of the smaller ones.
func everyTriangle(n int) []api.Triangle {
	first := firstTriangles(n)
	l := append(make([]api.Triangle, 0, 4*n*n), first[:]...)
	for i := 0; i < len(l); i++ {
		if m, divisible := middle(l[i]); divisible {
			both := parts(l[i], m)
			l = append(l, both[:]...)
		}
	}
	return l
}

// grid is a field that is one, without an error; n is its greatest column and row.
type grid struct {
	api.Field
	n int
}

func gridOf(f api.Field) (grid, api.Errno) {
	k, e := CheckGrid(f)
	if e != api.OK {
		return grid{}, e
	}
	return grid{f, 1 << k}, api.OK
}

// number is that of the cell in a column and a row.
func (g grid) number(p api.Point) int { return p.Y*g.W + p.X }

func (g grid) at(p api.Point) float32 { return g.V[g.number(p)] }

// errors gives the error of each cell. It need be no height.
func (g grid) errors() []float32 {
	errors := make([]float32, len(g.V))
	for _, t := range slices.Backward(everyTriangle(g.n)) {
		m, divisible := middle(t)
		if !divisible {
			continue
		}
		e := &errors[g.number(m)]
		*e = max(*e, field.Magnitude(g.at(m)-float32((g.at(t.A)+g.at(t.B))*0.5)))
		for _, part := range parts(t, m) {
			if next, divisible := middle(part); divisible {
				*e = max(*e, errors[g.number(next)])
			}
		}
	}
	return errors
}

// Errors is described in doc/09-level.md, P208.
func Errors(f api.Field) ([]float32, api.Errno) {
	g, e := gridOf(f)
	if e != api.OK {
		return nil, e
	}
	errors := g.errors()
	if e := field.CheckHeights(errors...); e != api.OK {
		return nil, e
	}
	return errors, api.OK
}

// Mesh is described in doc/09-level.md, P209.
func Mesh(f api.Field, most float32) ([]api.Triangle, api.Errno) {
	g, e := gridWith(f, most)
	if e != api.OK {
		return nil, e
	}
	return g.mesh(most), api.OK
}

// gridWith gives the errors of Mesh.
func gridWith(f api.Field, most float32) (grid, api.Errno) {
	g, e := gridOf(f)
	if e != api.OK {
		return grid{}, e
	}
	return g, field.CheckWithin(most, 0, api.MaxHeight)
}

// divider tells of a triangle of a mesh into which parts it is divided, and whether it is.
func (g grid) divider(most float32) func(t api.Triangle) ([2]api.Triangle, bool) {
	errors := g.errors()
	return func(t api.Triangle) ([2]api.Triangle, bool) {
		m, divisible := middle(t)
		if !divisible || errors[g.number(m)] <= most {
			return [2]api.Triangle{}, false
		}
		return parts(t, m), true
	}
}

func (g grid) mesh(most float32) []api.Triangle {
	var l []api.Triangle
	divide := g.divider(most)
	var add func(both [2]api.Triangle)
	add = func(both [2]api.Triangle) {
		for _, t := range both {
			if smaller, divided := divide(t); divided {
				add(smaller)
			} else {
				l = append(l, t)
			}
		}
	}
	add(firstTriangles(g.n))
	return l
}

// MeshAt is described in doc/09-level.md, P209.
func MeshAt(f api.Field, most float32, x, y int) (float32, api.Errno) {
	g, e := gridWith(f, most)
	if e != api.OK {
		return 0, e
	}
	if !field.Within(x, 0, g.n) || !field.Within(y, 0, g.n) {
		return 0, api.ErrPlace
	}
	v := g.heightAt(most, api.Point{X: x, Y: y})
	if e := field.CheckHeights(v); e != api.OK {
		return 0, e
	}
	return v, api.OK
}

// heightAt goes down to the first triangle of the mesh that covers a cell: where both parts do so, all of the first one come ahead of those of the other one.
func (g grid) heightAt(most float32, p api.Point) float32 {
	divide := g.divider(most)
	both, divided := firstTriangles(g.n), true
	var t api.Triangle
	for divided {
		t = both[0]
		if !covers(weights(t, p)) {
			t = both[1]
		}
		both, divided = divide(t)
	}
	d, u, w := weights(t, p)
	return g.mix(t, float32(u)/float32(d), float32(w)/float32(d))
}

// weights gives how much of a triangle's d belongs to B (u) and to C (w) at a place.
func weights(t api.Triangle, p api.Point) (d, u, w int) {
	return cross(t.A, t.B, t.C), cross(t.A, p, t.C), cross(t.A, t.B, p)
}

// cross is that of the ways from a to b and from a to c.
func cross(a, b, c api.Point) int { return (b.X-a.X)*(c.Y-a.Y) - (b.Y-a.Y)*(c.X-a.X) }

// covers reports whether a place with such weights is in the triangle, or on its sides. All triangles turn the same way, for which d is below 0.
func covers(d, u, w int) bool { return u <= 0 && w <= 0 && u+w >= d }

// mix gives the height of a triangle where so much of it belongs to B and to C.
func (g grid) mix(t api.Triangle, ofB, ofC float32) float32 {
	va, vb, vc := g.at(t.A), g.at(t.B), g.at(t.C)
	return va + (float32((vb-va)*ofB) + float32((vc-va)*ofC))
}
