package shape_test

import (
	"math"

	"tarnfell/api"
)

// This file has the document's formulas, written down another time: slow, and with each operation rounded by way of a double, which never rounds twice.

func times(a, b float32) float32 { return float32(float64(a) * float64(b)) }
func plus(a, b float32) float32  { return float32(float64(a) + float64(b)) }
func minus(a, b float32) float32 { return float32(float64(a) - float64(b)) }
func over(a, b float32) float32  { return float32(float64(a) / float64(b)) }
func root(a float32) float32     { return float32(math.Sqrt(float64(a))) }
func down(a float32) float32     { return float32(math.Floor(float64(a))) }

func sum(v float32, more ...float32) float32 {
	for _, w := range more {
		v = plus(v, w)
	}
	return v
}

func eased(t float32) float32 { return times(times(t, t), minus(3, times(2, t))) }

// neighbours are those in the north, west, east and south.
func neighbours(f api.Field, x, y int) (n, w, e, s float32) {
	return valueAt(f, x, y-1), valueAt(f, x-1, y), valueAt(f, x+1, y), valueAt(f, x, y+1)
}

func rises(f api.Field, x, y int) (dx, dy float32) {
	n, w, e, s := neighbours(f, x, y)
	return times(minus(e, w), 0.5), times(minus(s, n), 0.5)
}

func slopeAt(f api.Field, x, y int) float32 {
	dx, dy := rises(f, x, y)
	return root(plus(times(dx, dx), times(dy, dy)))
}

func aspectAt(f api.Field, x, y int) int {
	dx, dy := rises(f, x, y)
	if dx == 0 && dy == 0 {
		return -1
	}
	a, b := -dx, -dy
	wide, high := float32(math.Abs(float64(a))), float32(math.Abs(float64(b)))
	if times(high, 2.5) <= wide {
		if a > 0 {
			return 0
		}
		return 4
	}
	if times(wide, 2.5) <= high {
		if b > 0 {
			return 2
		}
		return 6
	}
	return map[[2]bool]int{{true, true}: 1, {false, true}: 3, {false, false}: 5, {true, false}: 7}[[2]bool{a > 0, b > 0}]
}

func normalAt(f api.Field, x, y int) (nx, ny, nz float32) {
	dx, dy := rises(f, x, y)
	m := root(sum(times(dx, dx), times(dy, dy), 1))
	return over(-dx, m), over(-dy, m), over(1, m)
}

func curveAt(f api.Field, x, y int) float32 {
	n, w, e, s := neighbours(f, x, y)
	return minus(times(sum(n, s, e, w), 0.25), valueAt(f, x, y))
}

func shadeAt(f api.Field, x, y, lx, ly, lz int) float32 {
	nx, ny, nz := normalAt(f, x, y)
	m := root(float32(lx*lx + ly*ly + lz*lz))
	v := over(sum(times(nx, float32(lx)), times(ny, float32(ly)), times(nz, float32(lz))), m)
	if v > 0 {
		return v
	}
	return 0
}

func selected(v, low, high, soft float32) float32 {
	if low <= v && v <= high {
		return 1
	}
	d := minus(v, high)
	if v < low {
		d = minus(low, v)
	}
	if d < soft {
		return minus(1, eased(over(d, soft)))
	}
	return 0
}

func terraced(v, step, sharp float32) float32 {
	q := over(v, step)
	i := down(q)
	s := minus(q, i)
	if s < sharp {
		return times(i, step)
	}
	return times(plus(i, over(minus(s, sharp), minus(1, sharp))), step)
}

func weightAt(b api.Brush, x, y int) float32 {
	d := (x-b.X)*(x-b.X) + (y-b.Y)*(y-b.Y)
	r := b.Radius * b.Radius
	if d >= r {
		return 0
	}
	switch b.Kind {
	case api.BrushFlat:
		return 1
	case api.BrushCone:
		return minus(1, over(root(float32(d)), float32(b.Radius)))
	case api.BrushBell:
		t := minus(1, over(float32(d), float32(r)))
		return times(t, t)
	}
	return nan
}

func thrown(l api.Fault, x, y int) float32 {
	k := l.A*x + l.B*y + l.C
	d := over(float32(k), root(float32(l.A*l.A+l.B*l.B)))
	w := float32(l.Width)
	switch {
	case d >= w:
		return l.Throw
	case l.Width == 0 && k < 0, l.Width != 0 && d <= -w:
		return 0
	}
	return times(l.Throw, eased(over(plus(d, w), times(w, 2))))
}

func lifted(o api.Fold, x, y int) float32 {
	k := (o.A*x + o.B*y) % o.Period
	if k < 0 {
		k += o.Period
	}
	t := over(times(float32(k), 2), float32(o.Period))
	if t <= 1 {
		return times(o.Height, eased(t))
	}
	return times(o.Height, eased(minus(2, t)))
}

func movedBy(w api.Wear, from, to float32) float32 {
	d := minus(from, to)
	if d > w.Talus {
		return times(minus(d, w.Talus), w.Rate)
	}
	return 0
}

func wornAt(f api.Field, w api.Wear, x, y int) float32 {
	v := valueAt(f, x, y)
	north, west, east, south := neighbours(f, x, y)
	v0 := v
	v0 = minus(v0, movedBy(w, v, north))
	v0 = minus(v0, movedBy(w, v, west))
	v0 = minus(v0, movedBy(w, v, east))
	v0 = minus(v0, movedBy(w, v, south))
	v0 = plus(v0, movedBy(w, north, v))
	v0 = plus(v0, movedBy(w, west, v))
	v0 = plus(v0, movedBy(w, east, v))
	return plus(v0, movedBy(w, south, v))
}

func smoothAt(f api.Field, x, y int) float32 {
	v := valueAt(f, x, y)
	n, w, e, s := neighbours(f, x, y)
	return minus(plus(v, times(plus(plus(n, w), plus(e, s)), 0.125)), times(v, 0.5))
}

func inSteps(f api.Field, steps int, at func(f api.Field, x, y int) float32) api.Field {
	for range steps {
		f = eachCell(smaller(f.Region, 1), func(x, y int) float32 { return at(f, x, y) })
	}
	return f
}

func steepestOf(f api.Field) float32 {
	var most float32
	for y := f.Y; y < f.Y+f.H; y++ {
		for x := f.X; x < f.X+f.W; x++ {
			for _, p := range []api.Point{{X: x - 1, Y: y}, {X: x, Y: y - 1}} {
				if p.X >= f.X && p.Y >= f.Y {
					d := minus(valueAt(f, x, y), valueAt(f, p.X, p.Y))
					most = max(most, d, -d)
				}
			}
		}
	}
	return most
}
