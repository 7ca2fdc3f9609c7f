package noise_test

import (
	"math"
	"testing"

	"tarnfell/api"
	"tarnfell/noise"
)

// latticePlace is a place with a spacing.
type latticePlace struct {
	seed       uint32
	x, y, cell int
}

// latticePlaces has places near 0, at the edges of lattice cells, anywhere, and at the ends of the plane.
func latticePlaces() []latticePlace {
	n := &numbers{state: 4}
	var l []latticePlace
	for _, cell := range []int{1, 2, 3, 4, 7, 8, 60, 255, 1000, 4095, 4096} {
		for range 300 {
			l = append(l, latticePlace{n.next(), n.place(), n.place(), cell})
			l = append(l, latticePlace{n.next(), n.between(-2*cell, 2*cell), n.between(-2*cell, 2*cell), cell})
			l = append(l, latticePlace{n.next(), n.between(-9, 9)*cell - n.between(0, 1), n.between(-9, 9)*cell - n.between(0, 1), cell})
		}
		for _, x := range []int{-api.MaxPlace, api.MaxPlace} {
			l = append(l, latticePlace{n.next(), x, -x, cell}, latticePlace{n.next(), x, x, cell})
		}
	}
	return l
}

// P27, G6: Value, with each operation rounded, and its bound.
func TestValue(t *testing.T) {
	for _, p := range latticePlaces() {
		v, e := noise.Value(p.seed, p.x, p.y, p.cell)
		wantSingle(t, "Value", v, e, valueNoise(p.seed, p.x, p.y, p.cell))
		if float64(v) > 1+0x1p-20 || float64(v) < -1-0x1p-20 {
			t.Errorf("Value of %v is %v", p, v)
		}
	}
	for _, s := range []struct {
		p    latticePlace
		want float32
	}{
		{latticePlace{0, 0, 0, 8}, -1},
		{latticePlace{1, 5, -3, 8}, -0.2994922399520874},
		{latticePlace{9, -100, 77, 64}, -0.05015452951192856},
		{latticePlace{123, api.MaxPlace, -api.MaxPlace, 4096}, -0.2588387727737427},
	} {
		v, e := noise.Value(s.p.seed, s.p.x, s.p.y, s.p.cell)
		wantSingle(t, "Value", v, e, s.want)
	}
}

// P27: at a corner of the lattice Value is the chance of this corner.
func TestValueAtCorners(t *testing.T) {
	for j := -3; j < 4; j++ {
		for i := -3; i < 4; i++ {
			v, e := noise.Value(11, i*5, j*5, 5)
			if want := noise.Signed(noise.Hash(11, i, j, 0)); e != api.OK || v != want {
				t.Error("Value", i, j, v, e, want)
			}
		}
	}
}

// P27, G6: Gradient, with each operation rounded, and its bound.
func TestGradient(t *testing.T) {
	for _, p := range latticePlaces() {
		v, e := noise.Gradient(p.seed, p.x, p.y, p.cell)
		wantSingle(t, "Gradient", v, e, gradientNoise(p.seed, p.x, p.y, p.cell))
		if float64(v) > 2+0x1p-19 || float64(v) < -2-0x1p-19 || p.cell == 1 && v != 0 {
			t.Errorf("Gradient of %v is %v", p, v)
		}
	}
	for _, s := range []struct {
		p    latticePlace
		want float32
	}{
		{latticePlace{1, 5, -3, 8}, 0.035533905029296875},
		{latticePlace{9, -100, 77, 64}, -0.09145431220531464},
		{latticePlace{123, api.MaxPlace - 1, 1 - api.MaxPlace, 4096}, 1.1642953268165002e-10},
	} {
		v, e := noise.Gradient(s.p.seed, s.p.x, s.p.y, s.p.cell)
		wantSingle(t, "Gradient", v, e, s.want)
	}
}

// P27: with the spacing 1 Gradient is a zero of either sign.
func TestGradientOfZeros(t *testing.T) {
	minus, both := 0, 1000
	for x := range both {
		v, e := noise.Gradient(12, x, -x, 1)
		if e != api.OK || v != 0 {
			t.Error("Gradient", x, v, e)
		}
		if sameBits(v, minusZero) {
			minus++
		}
	}
	if minus == 0 || minus == both {
		t.Errorf("%d of %d zeros are -0", minus, both)
	}
}

// P28, G6: Cells finds the nearest centres, of equal ones the first.
func TestCells(t *testing.T) {
	equal := 0
	for _, p := range latticePlaces() {
		near, next, at, e := noise.Cells(p.seed, p.x, p.y, p.cell)
		a, b, c := cellNoise(p.seed, p.x, p.y, p.cell)
		if e != api.OK || !sameBits(near, a) || !sameBits(next, b) || at != c {
			t.Errorf("Cells of %v: got %v %v %v, error %d; want %v %v %v", p, near, next, at, e, a, b, c)
		}
		if near == next {
			equal++
		}
	}
	if equal < 10 {
		t.Errorf("only %d places have two nearest centres", equal)
	}
	for _, s := range []struct {
		p          latticePlace
		near, next float32
		at         api.Point
	}{
		{latticePlace{1, 5, -3, 8}, 0.279508501291275, 0.673145592212677, api.Point{X: 4, Y: -5}},
		{latticePlace{9, -100, 77, 64}, 0.5814935564994812, 0.7182403206825256, api.Point{X: -104, Y: 40}},
		{latticePlace{123, api.MaxPlace, -api.MaxPlace, 4096}, 0.46002793312072754, 0.7052444815635681, api.Point{X: 4193805, Y: -4192487}},
	} {
		near, next, at, e := noise.Cells(s.p.seed, s.p.x, s.p.y, s.p.cell)
		if e != api.OK || near != s.near || next != s.next || at != s.at {
			t.Error("Cells", s, near, next, at, e)
		}
	}
}

// P28: at a centre the nearest one is the place itself; with the spacing 1 all places are centres.
func TestCellsAtCentres(t *testing.T) {
	for n := range 50 {
		c := centreOf(13, n-25, 3*n, 40)
		near, next, at, e := noise.Cells(13, c.X, c.Y, 40)
		if e != api.OK || !sameBits(near, 0) || next <= 0 || at != c {
			t.Error("Cells at a centre", c, near, next, at, e)
		}
		near, next, at, e = noise.Cells(13, c.X, c.Y, 1)
		if e != api.OK || !sameBits(near, 0) || next != 1 || at != c {
			t.Error("Cells with the spacing 1", c, near, next, at, e)
		}
	}
}

// P27: which places there are.
func TestCheckPlace(t *testing.T) {
	for _, p := range badPlaces() {
		if e := noise.CheckPlace(p.X, p.Y); e != api.ErrPlace {
			t.Error("CheckPlace", p, e)
		}
	}
	for _, x := range []int{0, api.MaxPlace, -api.MaxPlace} {
		if e := noise.CheckPlace(x, -x); e != api.OK {
			t.Error("CheckPlace", x, e)
		}
	}
}

// P27, P28: the errors of the functions with places and spacings, and their order.
func TestLatticeErrors(t *testing.T) {
	for _, p := range badPlaces() {
		for _, cell := range []int{1, 4096, 0, 4097, math.MinInt} {
			wantNoLattice(t, p, cell, api.ErrPlace)
		}
	}
	for _, cell := range []int{0, -1, api.MaxLattice + 1, 1 << 32, 1<<32 + 1, math.MaxInt, math.MinInt} {
		wantNoLattice(t, api.Point{X: 3, Y: 4}, cell, api.ErrRange)
		wantNoLattice(t, api.Point{X: api.MaxPlace, Y: -api.MaxPlace}, cell, api.ErrRange)
	}
}

func wantNoLattice(t *testing.T, p api.Point, cell int, want api.Errno) {
	t.Helper()
	v, e := noise.Value(1, p.X, p.Y, cell)
	wantNoSingle(t, "Value", v, e, want)
	v, e = noise.Gradient(1, p.X, p.Y, cell)
	wantNoSingle(t, "Gradient", v, e, want)
	near, next, at, e := noise.Cells(1, p.X, p.Y, cell)
	wantNoSingle(t, "Cells", near, e, want)
	wantNoSingle(t, "Cells", next, e, want)
	if at != (api.Point{}) {
		t.Error("Cells", at)
	}
}

// What later chapters need of this one: the square of a distance, that of the greatest one too.
func TestSquare(t *testing.T) {
	for _, s := range []struct {
		a, b api.Point
		want int
	}{
		{api.Point{}, api.Point{}, 0}, {api.Point{X: 3}, api.Point{Y: 4}, 25}, {api.Point{X: -7, Y: 2}, api.Point{X: 5, Y: -3}, 169},
		{api.Point{X: -api.MaxPlace, Y: api.MaxPlace}, api.Point{X: api.MaxPlace, Y: -api.MaxPlace}, 1 << 47},
	} {
		if n, m := noise.Square(s.a, s.b), noise.Square(s.b, s.a); n != s.want || m != s.want {
			t.Error("Square", s.a, s.b, n, m)
		}
	}
}
