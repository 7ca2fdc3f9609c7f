package shape_test

import (
	"math"
	"testing"

	"tarnfell/api"
	"tarnfell/field"
	"tarnfell/shape"
)

// badWear is a wear with what CheckWear says of it.
type badWear struct {
	w    api.Wear
	want api.Errno
}

func badWears() []badWear {
	var l []badWear
	for _, s := range badSingles(0, top) {
		for _, rate := range []float32{0.125, nan, inf, 1, -1} {
			l = append(l, badWear{api.Wear{Talus: s.v, Rate: rate}, s.want}, badWear{api.Wear{Talus: s.v, Rate: rate, Steps: 65}, s.want})
		}
	}
	for _, s := range badSingles(0, 0.125) {
		for _, steps := range []int{0, 64, 65, -1} {
			l = append(l, badWear{api.Wear{Talus: top, Rate: s.v, Steps: steps}, s.want})
		}
	}
	for _, steps := range outside(0, 64) {
		l = append(l, badWear{api.Wear{Talus: 1, Rate: 0.125, Steps: steps}, api.ErrRange})
	}
	return append(l, badWear{api.Wear{Talus: -tiny}, api.ErrRange}, badWear{api.Wear{Rate: -tiny}, api.ErrRange})
}

// P51: what a wear may be, and the errors, in their order.
func TestCheckWear(t *testing.T) {
	for _, w := range []api.Wear{{}, {Talus: minusZero, Rate: minusZero}, {Talus: tiny, Rate: tiny, Steps: 1}, {Talus: top, Rate: 0.125, Steps: 64}} {
		if e := shape.CheckWear(w); e != api.OK {
			t.Error("CheckWear", w, e)
		}
	}
	for _, s := range badWears() {
		if e := shape.CheckWear(s.w); e != s.want {
			t.Errorf("CheckWear(%v) is %d, want %d", s.w, e, s.want)
		}
	}
}

// P51, G6: Moved, with each operation rounded.
func TestMoved(t *testing.T) {
	n := &numbers{state: 12}
	for range 20000 {
		w := api.Wear{Talus: n.share(), Rate: n.share() / 8, Steps: n.between(0, 64)}
		from, to := n.single()*2, n.single()*2
		if n.between(0, 3) == 0 {
			w.Talus, from, to = float32(math.Abs(float64(n.height(top)))), n.height(top), n.height(top)
		}
		v, e := shape.Moved(w, from, to)
		wantSingle(t, "Moved", v, e, movedBy(w, from, to))
	}
	for _, s := range []struct{ talus, rate, from, to, want float32 }{
		{2, 0.125, 10, 0, 1}, {2, 0.125, 0, 10, 0}, {2, 0.125, 2, 0, 0}, {2, 0.125, 1, -1, 0}, {2, 0.5 / 4, after(2), 0, 0x1p-25},
		{0, 0.125, 3, 3, 0}, {0, 0.1, 0, -1, 0.1}, {0, 0.125, tiny, 0, 0}, {0, 0.125, 8 * tiny, 0, tiny}, {0, 0, 5, 0, 0}, {0, minusZero, 5, 0, minusZero}, {0, minusZero, 0, 5, 0}, {5, minusZero, 5, 0, 0},
		{0, 0.125, top, -top, 1 << 18}, {top, 0.125, top, -top, 1 << 17}, {top, 0.125, top, 0, 0}, {minusZero, 0.125, 0, minusZero, 0}, {0, 0.125, top, -0.0625, 1 << 17},
	} {
		v, e := shape.Moved(api.Wear{Talus: s.talus, Rate: s.rate}, s.from, s.to)
		wantSingle(t, "Moved", v, e, s.want)
	}
}

// P51: the errors of Moved, and their order.
func TestMovedErrors(t *testing.T) {
	for _, s := range badWears() {
		for _, h := range []float32{1, nan, beyond} {
			v, e := shape.Moved(s.w, h, 1)
			wantNoSingle(t, "Moved", v, e, s.want)
			v, e = shape.Moved(s.w, 1, h)
			wantNoSingle(t, "Moved", v, e, s.want)
		}
	}
	for _, s := range badSingles(-top, top) {
		v, e := shape.Moved(api.Wear{}, s.v, 0)
		wantNoSingle(t, "Moved", v, e, s.want)
		v, e = shape.Moved(api.Wear{}, 0, s.v)
		wantNoSingle(t, "Moved", v, e, s.want)
		v, e = shape.Moved(api.Wear{}, s.v, nan)
		wantNoSingle(t, "Moved", v, e, api.ErrForm)
		v, e = shape.Moved(api.Wear{}, inf, s.v)
		wantNoSingle(t, "Moved", v, e, api.ErrForm)
	}
}

// wears has such as move much, little and nothing of differences of this size.
func (n *numbers) wears(size float32) []api.Wear {
	return []api.Wear{{Rate: 0.125}, {Talus: n.share() * size, Rate: n.share() / 8}, {Talus: size / 4, Rate: 0.1}, {Talus: minusZero, Rate: minusZero}, {Talus: top, Rate: 0.125}}
}

// mostSteps is how many steps leave a cell.
func mostSteps(f api.Field) int { return (min(f.W, f.H) - 1) / 2 }

// P51, G6: Thermal, in no step and in several ones, with all that goes ahead of all that comes, in the order of the neighbours.
func TestThermal(t *testing.T) {
	n := &numbers{state: 13}
	for _, f := range n.fields(top) {
		for _, size := range []float32{1, top} {
			for _, w := range n.wears(size) {
				for steps := range mostSteps(f) + 1 {
					w.Steps = steps
					g, e := shape.Thermal(f, w)
					wantField(t, "Thermal", g, e, inSteps(f, steps, func(f api.Field, x, y int) float32 { return wornAt(f, w, x, y) }))
				}
			}
		}
	}
}

// P51: known steps, and the zeros.
func TestThermalOfOneCell(t *testing.T) {
	w := api.Wear{Talus: 1, Rate: 0.125, Steps: 1}
	for _, s := range []struct {
		f    api.Field
		want float32
	}{
		{around(9, 0, 0, 0, 0), 5}, {around(9, 1, 8, 9, 17), 9}, {around(0, 9, 0, 0, 0), 1}, {around(0, 0, 9, 0, 0), 1}, {around(0, 0, 0, 9, 0), 1}, {around(0, 0, 0, 0, 9), 1},
		{around(0, -9, 0, 0, 0), -1}, {around(0, 0, -9, 0, 0), -1}, {around(0, 0, 0, -9, 0), -1}, {around(0, 0, 0, 0, -9), -1}, {around(5, 4, 6, 5, 5.5), 5},
		{around(minusZero, 0, 0, 0, 0), 0}, {around(minusZero, 1, -1, 0, 0), 0}, {around(0, 0, 0, 0, 0), 0}, {around(minusZero, 9, -9, 0, 0), 0},
		{around(top, top, top, top, top), top}, {around(-top, -top, -top, -top, -top), -top},
		{around(top, -top, -top, -top, -top), top - 4*(top/4-0.125)},
	} {
		g, e := shape.Thermal(s.f, w)
		wantMiddle(t, "Thermal", g, e, s.want)
	}
	w.Steps = 0
	f := row(minusZero, 0, top, tiny)
	g, e := shape.Thermal(f, w)
	wantField(t, "Thermal in no step", g, e, f)
	w = api.Wear{Rate: minusZero, Steps: 1}
	g, e = shape.Thermal(around(minusZero, 1, -1, -1, 1), w)
	wantMiddle(t, "Thermal with the rate -0", g, e, 0)
}

// P51: how much smaller the result is, and the errors, in their order.
func TestThermalErrors(t *testing.T) {
	for _, steps := range []int{0, 1, 5, 64} {
		w := api.Wear{Rate: 0.125, Steps: steps}
		for _, s := range []struct{ w, h int }{{2*steps + 1, 2*steps + 1}, {2*steps + 3, 2*steps + 1}, {2*steps + 1, 2*steps + 2}} {
			f, _ := field.Fill(region(-4, 9, s.w, s.h), 7)
			g, e := shape.Thermal(f, w)
			wantField(t, "Thermal", g, e, eachCell(smaller(f.Region, steps), func(int, int) float32 { return 7 }))
		}
		for _, s := range []struct{ w, h int }{{2 * steps, 2*steps + 1}, {2*steps + 1, 2 * steps}, {steps + 1, steps + 1}, {1, 200}} {
			if steps > 0 {
				f, _ := field.Fill(region(-4, 9, s.w, s.h), 7)
				g, e := shape.Thermal(f, w)
				wantNoField(t, "Thermal", g, e, api.ErrEmpty)
			}
		}
	}
	for _, s := range badWears() {
		g, e := shape.Thermal(row(1, 2), s.w)
		wantNoField(t, "Thermal", g, e, s.want)
	}
	for _, s := range badFields() {
		g, e := shape.Thermal(s.f, api.Wear{Talus: nan})
		wantNoField(t, "Thermal", g, e, s.want)
		g, e = shape.Thermal(s.f, api.Wear{Steps: 64})
		wantNoField(t, "Thermal", g, e, s.want)
	}
}

// P51: what is nowhere steeper than Talus stays as it is, but for -0.
func TestThermalOfGentleSlopes(t *testing.T) {
	n := &numbers{state: 14}
	for _, f := range n.fields(1 << 18) {
		talus, e := shape.Steepest(f)
		if e != api.OK {
			t.Fatal(e)
		}
		for steps := 1; steps <= mostSteps(f); steps++ {
			g, e := shape.Thermal(f, api.Wear{Talus: talus, Rate: 0.125, Steps: steps})
			wantField(t, "Thermal", g, e, eachCell(smaller(f.Region, steps), func(x, y int) float32 { return plus(valueAt(f, x, y), 0) }))
			if talus > 1 {
				g, e = shape.Thermal(f, api.Wear{Talus: talus / 4, Rate: 0.125, Steps: steps})
				if e != api.OK || steps == 1 && f.W > 3 && field.Same(g, eachCell(g.Region, func(x, y int) float32 { return plus(valueAt(f, x, y), 0) })) {
					t.Error("Thermal moves nothing", f.Region, e)
				}
			}
		}
	}
}

// basin is a field whose border, two cells wide, is flat, and lies between the others, none of which is beside it.
func (n *numbers) basin(most, step float32) api.Field {
	r := region(-5, 8, 20, 20)
	return eachCell(r, func(x, y int) float32 {
		switch edge := min(x-r.X, y-r.Y, r.X+r.W-1-x, r.Y+r.H-1-y); {
		case edge < 2:
			return most / 2
		case edge == 2:
			return most/2 + n.single()*step
		}
		return n.share() * most
	})
}

// total is the sum of values, and that of their magnitudes, with errors that are small beside those of singles.
func total(values []float32) (sum, magnitudes float64) {
	for _, v := range values {
		sum += float64(v)
		magnitudes += math.Abs(float64(v))
	}
	return sum, magnitudes
}

// P51: in a step what goes comes: if nothing moves over the edge, the sum changes by rounding alone.
func TestThermalKeepsSums(t *testing.T) {
	n := &numbers{state: 15}
	for _, most := range []float32{1, 1000, top} {
		for range 30 {
			w := api.Wear{Talus: most / 16, Rate: 0.125 - n.share()/16, Steps: 1}
			f := n.basin(most, most/32)
			inside, _ := field.Cut(f, smaller(f.Region, 1))
			sum, magnitudes := total(inside.V)
			g, e := shape.Thermal(f, w)
			if e != api.OK || field.Same(inside, g) {
				t.Fatal("Thermal moves nothing", e)
			}
			after, _ := total(g.V)
			if math.Abs(after-sum) > 0x1p-18*magnitudes {
				t.Errorf("Thermal: the sum %v becomes %v", sum, after)
			}
		}
	}
}

// P51: no cell becomes greater than the greatest, or less than the least, of itself and its neighbours, but by rounding.
func TestThermalStaysBetween(t *testing.T) {
	n := &numbers{state: 16}
	for range 20 {
		for _, f := range n.fields(top) {
			for _, w := range n.wears(1) {
				w.Steps = 1
				g, e := shape.Thermal(f, w)
				if e != api.OK {
					t.Fatal("Thermal", e)
				}
				for i, v := range g.V {
					x, y := g.X+i%g.W, g.Y+i/g.W
					n, w, e, s := neighbours(f, x, y)
					c := valueAt(f, x, y)
					low, high := float64(min(c, n, w, e, s)), float64(max(c, n, w, e, s))
					slack := 0x1p-20 * max(high, -low)
					if float64(v) > high+slack || float64(v) < low-slack {
						t.Errorf("Thermal: %v beside %v %v %v %v becomes %v", c, n, w, e, s, v)
					}
				}
			}
		}
	}
}

// P51: slopes can become steeper.
func TestThermalMakesSteeper(t *testing.T) {
	f := of(0, 0, 4, 5,
		0, 0, 0, 0,
		0, 16, -16, 0,
		16, 0, 0, -16,
		0, 16, -16, 0,
		0, 0, 0, 0)
	g, e := shape.Thermal(f, api.Wear{Rate: 0.125, Steps: 1})
	if e != api.OK {
		t.Fatal(e)
	}
	if d := valueAt(g, 1, 2) - valueAt(g, 2, 2); d != 12 {
		t.Error("Thermal: the difference becomes", d)
	}
}

// P52, G6: Smooth, in no step and in several ones, with each operation rounded.
func TestSmooth(t *testing.T) {
	n := &numbers{state: 17}
	for _, f := range n.fields(top) {
		for steps := range mostSteps(f) + 1 {
			g, e := shape.Smooth(f, steps)
			wantField(t, "Smooth", g, e, inSteps(f, steps, smoothAt))
		}
	}
	for _, s := range []struct {
		f    api.Field
		want float32
	}{
		{around(8, 0, 0, 0, 0), 4}, {around(0, 8, 0, 0, 0), 1}, {around(0, 0, 8, 0, 0), 1}, {around(0, 0, 0, 8, 0), 1}, {around(0, 0, 0, 0, 8), 1}, {around(3, 3, 3, 3, 3), 3},
		{around(minusZero, minusZero, minusZero, minusZero, minusZero), 0}, {around(0, 0, 0, 0, 0), 0}, {around(tiny, 0, 0, 0, 0), tiny}, {around(3*tiny, 0, 0, 0, 0), tiny},
		{around(top, top, top, top, top), top}, {around(-top, -top, -top, -top, -top), -top},
		// The sums are those of two and two.
		{around(0, 1, 0x1p-24, 0x1p-24, 0), times(1, 0.125)}, {around(0, 0x1p-24, 0x1p-24, 1, 0), times(after(1), 0.125)}, {around(0, 0x1p-24, 1, 0x1p-24, 0), times(1, 0.125)},
		{around(0, 1, 0, 0x1p-24, 0x1p-24), times(after(1), 0.125)},
	} {
		g, e := shape.Smooth(s.f, 1)
		wantMiddle(t, "Smooth", g, e, s.want)
	}
	f := row(minusZero, 0, top, tiny)
	g, e := shape.Smooth(f, 0)
	wantField(t, "Smooth in no step", g, e, f)
}

// P51, P52, G7: no rounding leads beyond heights.
func TestWearNearTheTop(t *testing.T) {
	n := &numbers{state: 18}
	for range 300 {
		f := n.field(region(0, 0, 9, 9), func() float32 { return top - float32(n.between(0, 4))/16 })
		g, e := shape.Smooth(f, 4)
		wantField(t, "Smooth", g, e, inSteps(f, 4, smoothAt))
		w := api.Wear{Rate: 0.125, Steps: 4}
		g, e = shape.Thermal(f, w)
		wantField(t, "Thermal", g, e, inSteps(f, 4, func(f api.Field, x, y int) float32 { return wornAt(f, w, x, y) }))
	}
}

// P52: how much smaller the result is, and the errors, in their order.
func TestSmoothErrors(t *testing.T) {
	f, _ := field.Fill(region(-4, 9, 129, 130), 7)
	g, e := shape.Smooth(f, 64)
	wantField(t, "Smooth", g, e, of(60, 73, 1, 2, 7, 7))
	for _, r := range []api.Region{region(0, 0, 128, 129), region(0, 0, 129, 128), region(0, 0, 1, 1)} {
		f, _ = field.Fill(r, 7)
		g, e = shape.Smooth(f, 64)
		wantNoField(t, "Smooth", g, e, api.ErrEmpty)
	}
	for _, steps := range outside(0, 64) {
		g, e = shape.Smooth(row(1, 2), steps)
		wantNoField(t, "Smooth", g, e, api.ErrRange)
		for _, s := range badFields() {
			g, e = shape.Smooth(s.f, steps)
			wantNoField(t, "Smooth", g, e, s.want)
		}
	}
	for _, s := range badFields() {
		g, e = shape.Smooth(s.f, 64)
		wantNoField(t, "Smooth", g, e, s.want)
	}
}
