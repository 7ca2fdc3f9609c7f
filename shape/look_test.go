package shape_test

import (
	"math"
	"slices"
	"testing"

	"tarnfell/api"
	"tarnfell/field"
	"tarnfell/shape"
)

// P45, G6: Slope and Curve, with each operation rounded, of all cells with four neighbours.
func TestSlopeAndCurve(t *testing.T) {
	n := &numbers{state: 1}
	for _, f := range n.fields(1 << 18) {
		g, e := shape.Slope(f)
		wantField(t, "Slope", g, e, inSteps(f, 1, slopeAt))
		g, e = shape.Curve(f)
		wantField(t, "Curve", g, e, inSteps(f, 1, curveAt))
	}
}

// P45: which neighbours Slope and Curve look at.
func TestSlopeAndCurveOfOneNeighbour(t *testing.T) {
	for _, s := range []struct {
		f            api.Field
		slope, curve float32
	}{
		{around(8, 0, 0, 0, 0), 0, -8},
		{around(0, 8, 0, 0, 0), 4, 2},
		{around(0, 0, 8, 0, 0), 4, 2},
		{around(0, 0, 0, 8, 0), 4, 2},
		{around(0, 0, 0, 0, 8), 4, 2},
		{around(1, 8, 3, -3, 0), 5, 1},
		{around(5, 5, 5, 5, 5), 0, 0},
	} {
		g, e := shape.Slope(s.f)
		wantMiddle(t, "Slope", g, e, s.slope)
		g, e = shape.Curve(s.f)
		wantMiddle(t, "Curve", g, e, s.curve)
	}
}

// P45, G6: what is rounded at once, and in which order.
func TestLooksRound(t *testing.T) {
	// Half of the least single is rounded to 0, half of three to two.
	g, e := shape.Slope(around(0, 0, 0, tiny, 0))
	wantMiddle(t, "Slope of half of the least single", g, e, 0)
	l, _, e := shape.Aspect(around(0, 0, 0, tiny, tiny))
	if e != api.OK || l[0] != -1 {
		t.Error("Aspect of half of the least single", l, e)
	}
	l, _, e = shape.Aspect(around(0, 0, 0, 3*tiny, tiny))
	if e != api.OK || l[0] != 4 {
		t.Error("Aspect of three times the least single", l, e)
	}
	// North and south come ahead of east and west.
	g, e = shape.Curve(around(0, 1, top, 0.0625, -1))
	wantMiddle(t, "Curve", g, e, times(plus(0.0625, top), 0.25))
	g, e = shape.Curve(around(0, top, 0.0625, -top, 0.0625))
	wantMiddle(t, "Curve", g, e, times(sum(top, 0.0625, -top, 0.0625), 0.25))
}

// P45, G7: a slope or a curve that is no height is an error, behind all others; on the way values may be greater.
func TestLooksBeyondHeights(t *testing.T) {
	g, e := shape.Slope(around(0, 0, -top, top, 0))
	wantMiddle(t, "Slope", g, e, top)
	g, e = shape.Slope(around(0, -top, -top, top, top))
	wantNoField(t, "Slope", g, e, api.ErrRange)
	g, e = shape.Slope(around(0, 1024, -top, top, -1024))
	wantNoField(t, "Slope", g, e, api.ErrRange)
	g, e = shape.Curve(around(0, top, top, top, top))
	wantMiddle(t, "Curve", g, e, top)
	g, e = shape.Curve(around(-top, top, -top, top, -top))
	wantMiddle(t, "Curve", g, e, top)
	g, e = shape.Curve(around(-top, 1, -top, top, 0))
	wantNoField(t, "Curve", g, e, api.ErrRange)
	l, r, e := shape.Aspect(around(0, -top, -top, top, top))
	if e != api.OK || r != region(1, 1, 1, 1) || !slices.Equal(l, []int{5}) {
		t.Error("Aspect", l, r, e)
	}
	x, y, z, e := shape.Normal(around(0, -top, -top, top, top), 1, 1)
	wantSingle(t, "Normal", x, e, over(-top, root(0x1p41)))
	wantSingle(t, "Normal", y, e, over(-top, root(0x1p41)))
	wantSingle(t, "Normal", z, e, over(1, root(0x1p41)))
}

// slanting falls by a to the east and by b to the south.
func slanting(a, b float32) api.Field { return around(0, b, a, -a, -b) }

// P45: the eight directions, their borders, which are rounded, and none.
func TestAspect(t *testing.T) {
	for _, s := range []struct {
		a, b float32
		want int
	}{
		{0, 0, -1}, {1, 0, 0}, {1, 1, 1}, {0, 1, 2}, {-1, 1, 3}, {-1, 0, 4}, {-1, -1, 5}, {0, -1, 6}, {1, -1, 7},
		{5, 2, 0}, {5, -2, 0}, {-5, 2, 4}, {-5, -2, 4}, {2, 5, 2}, {-2, 5, 2}, {2, -5, 6}, {-2, -5, 6},
		{before(5), 2, 1}, {before(5), -2, 7}, {after(-5), 2, 3}, {after(-5), -2, 5},
		{2, before(5), 1}, {-2, before(5), 3}, {2, after(-5), 7}, {-2, after(-5), 5},
		{5, after(2), 1}, {after(2), 5, 1}, {5, before(2), 0}, {before(2), 5, 2},
		{minusZero, minusZero, -1}, {tiny, 0, 0}, {0, -tiny, 6}, {tiny, -tiny, 7}, {top / 2, -tiny, 0},
		// 2.5 times the other one is rounded down to it.
		{2.5 + 0x1p-22, after(1), 0}, {after(1), 2.5 + 0x1p-22, 2}, {2.5, after(1), 1}, {after(1), 2.5, 1},
	} {
		l, r, e := shape.Aspect(slanting(s.a, s.b))
		if e != api.OK || r != region(1, 1, 1, 1) || !slices.Equal(l, []int{s.want}) {
			t.Error("Aspect", s, l, r, e)
		}
	}
}

// P45, G6: Aspect of all cells with four neighbours, row by row.
func TestAspectOfFields(t *testing.T) {
	n := &numbers{state: 2}
	found := map[int]int{}
	for _, f := range n.fields(top) {
		l, r, e := shape.Aspect(f)
		if e != api.OK || r != smaller(f.Region, 1) || len(l) != r.W*r.H {
			t.Fatal("Aspect", r, len(l), e)
		}
		for i, d := range l {
			x, y := r.X+i%r.W, r.Y+i/r.W
			if want := aspectAt(f, x, y); d != want {
				t.Fatalf("Aspect at (%d, %d): got %d, want %d", x, y, d, want)
			}
			found[d]++
		}
	}
	for d := -1; d < 8; d++ {
		if found[d] < 20 {
			t.Errorf("only %d cells have the aspect %d", found[d], d)
		}
	}
}

// P45, G6: Normal of each cell, with the signs of its zeros.
func TestNormal(t *testing.T) {
	n := &numbers{state: 3}
	for _, f := range n.fields(top) {
		for y := f.Y + 1; y < f.Y+f.H-1; y++ {
			for x := f.X + 1; x < f.X+f.W-1; x++ {
				nx, ny, nz, e := shape.Normal(f, x, y)
				wx, wy, wz := normalAt(f, x, y)
				if e != api.OK || !sameBits(nx, wx) || !sameBits(ny, wy) || !sameBits(nz, wz) {
					t.Fatalf("Normal: got %v %v %v, error %d; want %v %v %v", nx, ny, nz, e, wx, wy, wz)
				}
			}
		}
	}
	x, y, z, e := shape.Normal(around(7, 5, 5, 5, 5), 1, 1)
	wantSingle(t, "Normal", x, e, minusZero)
	wantSingle(t, "Normal", y, e, minusZero)
	wantSingle(t, "Normal", z, e, 1)
	x, y, z, e = shape.Normal(around(0, 0, -2, 2, 4), 1, 1)
	wantSingle(t, "Normal", x, e, -2.0/3)
	wantSingle(t, "Normal", y, e, -2.0/3)
	wantSingle(t, "Normal", z, e, 1.0/3)
}

// P45: Normal is that of cells with four neighbours alone.
func TestNormalPlaces(t *testing.T) {
	f := eachCell(region(-3, 5, 5, 4), func(x, y int) float32 { return float32(x) })
	want := func(x, y int, want api.Errno) {
		nx, ny, nz, e := shape.Normal(f, x, y)
		if e != want || e != api.OK && (!sameBits(nx, 0) || !sameBits(ny, 0) || !sameBits(nz, 0)) {
			t.Errorf("Normal at (%d, %d): got %v %v %v, error %d; want error %d", x, y, nx, ny, nz, e, want)
		}
	}
	for y := 3; y < 11; y++ {
		for x := -5; x < 4; x++ {
			if x > -3 && x < 1 && y > 5 && y < 8 {
				want(x, y, api.OK)
			} else {
				want(x, y, api.ErrPlace)
			}
		}
	}
	for _, far := range []int{math.MaxInt, math.MinInt, 1 << 32, -1 << 32, api.MaxPlace + 1, -2 + 1<<62} {
		want(far, 6, api.ErrPlace)
		want(-1, far, api.ErrPlace)
		want(far, far, api.ErrPlace)
	}
}

// looker is a function that looks at the neighbours of all cells; it returns whether its results are zero.
type looker struct {
	name string
	look func(f api.Field) (bool, api.Errno)
}

func lookers() []looker {
	none := func(f api.Field, e api.Errno) (bool, api.Errno) {
		return f.Region == api.Region{} && len(f.V) == 0, e
	}
	return []looker{
		{"Slope", func(f api.Field) (bool, api.Errno) { return none(shape.Slope(f)) }},
		{"Curve", func(f api.Field) (bool, api.Errno) { return none(shape.Curve(f)) }},
		{"Shade", func(f api.Field) (bool, api.Errno) { return none(shape.Shade(f, 1001, 0, 0)) }},
		{"Shade", func(f api.Field) (bool, api.Errno) { return none(shape.Shade(f, 0, 0, 0)) }},
		{"Thermal", func(f api.Field) (bool, api.Errno) { return none(shape.Thermal(f, api.Wear{Steps: 1})) }},
		{"Smooth", func(f api.Field) (bool, api.Errno) { return none(shape.Smooth(f, 1)) }},
		{"Aspect", func(f api.Field) (bool, api.Errno) {
			l, r, e := shape.Aspect(f)
			return r == api.Region{} && len(l) == 0, e
		}},
		{"Normal", func(f api.Field) (bool, api.Errno) {
			x, y, z, e := shape.Normal(f, -1, 0)
			return x == 0 && y == 0 && z == 0, e
		}},
	}
}

// P45, P46, P51, P52: the errors of a field come first, then that of one in which no cell has four neighbours.
func TestLooksAtNothing(t *testing.T) {
	for _, l := range lookers() {
		for _, s := range badFields() {
			if zero, e := l.look(s.f); e != s.want || !zero {
				t.Errorf("%s of %v: error %d, want %d", l.name, s.f.Region, e, s.want)
			}
		}
		for _, r := range []api.Region{region(0, 0, 1, 1), region(0, 0, 2, 9), region(0, 0, 9, 2), region(0, 0, 1, 512), region(-api.MaxPlace, api.MaxPlace-2, 2, 2)} {
			f, _ := field.Fill(r, top)
			if zero, e := l.look(f); e != api.ErrEmpty || !zero {
				t.Errorf("%s of %v: error %d, want %d", l.name, r, e, api.ErrEmpty)
			}
		}
	}
}

// P46, G6: Shade from all sides, with each operation rounded.
func TestShade(t *testing.T) {
	n := &numbers{state: 4}
	dark, light := 0, 0
	for _, f := range n.fields(1000) {
		for range 12 {
			lx, ly, lz := n.between(-1000, 1000), n.between(-1000, 1000), n.between(-1000, 1000)
			g, e := shape.Shade(f, lx, ly, lz)
			wantField(t, "Shade", g, e, inSteps(f, 1, func(f api.Field, x, y int) float32 { return shadeAt(f, x, y, lx, ly, lz) }))
			for _, v := range g.V {
				if v > 0 {
					light++
				} else {
					dark++
				}
			}
		}
	}
	if dark < 1000 || light < 1000 {
		t.Errorf("%d cells are dark, %d are not", dark, light)
	}
}

// P46: known lights; what looks away from the light has 0, not -0.
func TestShadeOfOneCell(t *testing.T) {
	flat, slant := around(1, 5, 5, 5, 5), slanting(2, 2)
	for _, s := range []struct {
		f          api.Field
		lx, ly, lz int
		want       float32
	}{
		{flat, 0, 0, 1, 1}, {flat, 0, 0, 1000, 1}, {flat, 0, 0, -1, 0}, {flat, 1, 0, 0, 0}, {flat, -1, 0, 0, 0}, {flat, 0, -1000, 0, 0},
		{flat, 3, 0, 4, over(4, 5)}, {flat, 2, -3, 6, over(6, 7)}, {flat, -1000, 1000, 1000, over(1000, root(3000000))},
		{slant, 1, 0, 0, over(2, 3)}, {slant, 0, 1, 0, over(2, 3)}, {slant, -1, 0, 0, 0}, {slant, 0, -1, 0, 0},
		{slant, 1, -1, 0, 0}, {slant, -1, 1, 0, 0}, {slant, 0, 0, 1, over(1, 3)}, {slant, -2, 2, 1, over(over(1, 3), 3)},
	} {
		g, e := shape.Shade(s.f, s.lx, s.ly, s.lz)
		wantMiddle(t, "Shade", g, e, s.want)
	}
}

// P46: the errors of Shade, and their order.
func TestShadeErrors(t *testing.T) {
	f := slanting(1, 2)
	for _, far := range outside(-1000, 1000) {
		for _, l := range [][3]int{{far, 0, 0}, {0, far, 0}, {0, 0, far}, {far, far, far}, {1, -1, far}} {
			g, e := shape.Shade(f, l[0], l[1], l[2])
			wantNoField(t, "Shade", g, e, api.ErrRange)
			g, e = shape.Shade(row(1, 2, 3), l[0], l[1], l[2])
			wantNoField(t, "Shade", g, e, api.ErrEmpty)
		}
	}
	g, e := shape.Shade(f, 0, 0, 0)
	wantNoField(t, "Shade", g, e, api.ErrConflict)
}

// P51: Steepest compares neighbours, not cells that touch at corners, nor the end of a row with the next one.
func TestSteepest(t *testing.T) {
	n := &numbers{state: 5}
	for _, f := range n.fields(1 << 18) {
		v, e := shape.Steepest(f)
		wantSingle(t, "Steepest", v, e, steepestOf(f))
	}
	for range 300 {
		f := n.field(region(n.place()/2, n.place()/2, n.between(1, 4), n.between(1, 4)), n.single)
		v, e := shape.Steepest(f)
		wantSingle(t, "Steepest", v, e, steepestOf(f))
	}
	for _, s := range []struct {
		f    api.Field
		want float32
	}{
		{row(5), 0}, {row(minusZero), 0}, {row(0, minusZero), 0}, {row(minusZero, 0), 0}, {row(3, 3, 3), 0},
		{row(1, 5, 3), 4}, {row(5, 1, 3), 4}, {row(0, -tiny), tiny}, {of(0, 0, 1, 3, 1, 2, -5), 7}, {of(9, 9, 1, 2, -5, 2), 7},
		{of(0, 0, 2, 2, 0, 8, -8, 0), 8}, {of(0, 0, 2, 2, 8, 0, 0, -9), 9}, {of(0, 0, 3, 2, 0, 1, 2, -2, -1, 0), 2},
		{row(0, top), top}, {row(-top, 0), top}, {of(0, 0, 2, 2, top, 0, 0, -top), top}, {row(top/2, -top/2), top},
		// The difference is rounded.
		{row(top, -tiny), top}, {row(top, -0.0625), top},
	} {
		v, e := shape.Steepest(s.f)
		wantSingle(t, "Steepest", v, e, s.want)
	}
	for _, f := range []api.Field{row(top, -0.125), row(-1, top), row(top, -top), of(0, 0, 1, 2, -top, top)} {
		v, e := shape.Steepest(f)
		wantNoSingle(t, "Steepest", v, e, api.ErrRange)
	}
	for _, s := range badFields() {
		v, e := shape.Steepest(s.f)
		wantNoSingle(t, "Steepest", v, e, s.want)
	}
}
