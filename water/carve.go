package water

import (
	"slices"

	"tarnfell/api"
	"tarnfell/field"
)

const (
	maxCarvingSteps = 50
	maxDepth        = 1024
)

// CheckCarving is described in doc/04-water.md, P79.
func CheckCarving(c api.Carving) api.Errno {
	if e := field.CheckHeights(c.Rate, c.Least, c.Most); e != api.OK {
		return e
	}
	switch {
	case c.Rate < 0 || c.Rate > 1 || c.Least < 0:
		return api.ErrRange
	case c.Most < c.Least:
		return api.ErrOrder
	case !field.Within(c.Steps, 0, maxCarvingSteps):
		return api.ErrRange
	}
	return api.OK
}

// Depth is described in doc/04-water.md, P79.
func Depth(c api.Carving, amount int, drop float32) (float32, api.Errno) {
	if e := CheckCarving(c); e != api.OK {
		return 0, e
	}
	if e := field.CheckHeights(drop); e != api.OK {
		return 0, e
	}
	if !field.Within(amount, 0, maxAmount) {
		return 0, api.ErrRange
	}
	return deep(c, amount, drop), api.OK
}

func deep(c api.Carving, amount int, drop float32) float32 {
	if amount < 1 || drop <= 0 {
		return 0
	}
	d := float32(c.Rate * field.Root(float32(amount)) * drop)
	if d < c.Least {
		return 0
	}
	return field.Lesser(field.Lesser(d, c.Most), float32(drop*0.5))
}

// Carve is described in doc/04-water.md, P80.
func Carve(f api.Field, c api.Carving) (api.Field, api.Errno) {
	if e := field.Check(f); e != api.OK {
		return api.Field{}, e
	}
	if e := CheckCarving(c); e != api.OK {
		return api.Field{}, e
	}
	// No step leaves the heights, because no cell is cut below the one to which it drains.
	g := api.Field{Region: f.Region, V: slices.Clone(f.V)}
	for range c.Steps {
		g = carved(g, c)
	}
	return g, api.OK
}

// carved makes a step. A drop can be greater than Depth takes: it is that of two heights.
func carved(f api.Field, c api.Carving) api.Field {
	l := drainage(f)
	amounts := l.gather(slices.Repeat([]int{1}, len(f.V)))
	g := api.Field{Region: f.Region, V: make([]float32, len(f.V))}
	for i, v := range f.V {
		drop := float32(0)
		if n := l.to[i]; n != none {
			drop = v - f.V[n]
		}
		g.V[i] = v - deep(c, amounts[i], drop)
	}
	return g
}

// Breach is described in doc/04-water.md, P81.
func Breach(f api.Field, step float32) (api.Field, api.Errno) {
	if e := field.Check(f); e != api.OK {
		return api.Field{}, e
	}
	if e := field.CheckWithin(step, 0, 1); e != api.OK {
		return api.Field{}, e
	}
	l := drainage(f)
	g := api.Field{Region: f.Region, V: slices.Clone(f.V)}
	for i := range g.V {
		if isPit(g, i) {
			l.cut(g.V, i, step)
		}
	}
	return byCell(f.Region, func(i int) float32 { return g.V[i] })
}

func isPit(f api.Field, i int) bool {
	if isBorder(f.Region, i) {
		return false
	}
	for _, n := range neighbours(f.Region, i) {
		if f.V[n] < f.V[i] {
			return false
		}
	}
	return true
}

// cut lowers the way of a cell up to one that is low enough.
func (l flow) cut(heights []float32, i int, step float32) {
	v := heights[i] - step
	for n := l.to[i]; n != none && heights[n] > v; n = l.to[n] {
		heights[n] = v
		v -= step
	}
}

// Bed is described in doc/04-water.md, P82.
func Bed(f api.Field, l []api.River, amounts []int, depth float32) (api.Field, api.Errno) {
	if e := checkBed(f, l, amounts, depth); e != api.OK {
		return api.Field{}, e
	}
	most := slices.Max(amounts)
	if most == 0 && len(l) > 0 {
		return api.Field{}, api.ErrEmpty
	}
	bed := bedCells(f.Region, l)
	return byCell(f.Region, func(i int) float32 {
		if !bed[i] {
			return f.V[i]
		}
		return f.V[i] - float32(depth*field.Root(float32(amounts[i])))/field.Root(float32(most))
	})
}

// checkBed gives the errors of Bed, but for those of amounts that are all 0 and of a result.
func checkBed(f api.Field, l []api.River, amounts []int, depth float32) api.Errno {
	if e := field.Check(f); e != api.OK {
		return e
	}
	if e := field.CheckHeights(depth); e != api.OK {
		return e
	}
	if e := checkRivers(l); e != api.OK {
		return e
	}
	if e := checkList(f.Region, amounts, maxAmount); e != api.OK {
		return e
	}
	for _, v := range l {
		for _, p := range v.Points {
			if !field.Has(f.Region, p.X, p.Y) {
				return api.ErrPlace
			}
		}
	}
	return field.CheckWithin(depth, 0, maxDepth)
}

// bedCells tells which cells are cut. The last cell of a river that leads to another one is that one's.
func bedCells(r api.Region, l []api.River) []bool {
	bed := make([]bool, r.W*r.H)
	for _, v := range l {
		points := v.Points
		if v.Into != none {
			points = points[:len(points)-1]
		}
		for _, p := range points {
			bed[field.Index(r, p.X, p.Y)] = true
		}
	}
	return bed
}
