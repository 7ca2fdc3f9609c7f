package field_test

import (
	"math"
	"testing"

	"tarnfell/api"
	"tarnfell/field"
)

// near returns the values of the cells up to the radius around one, row by row.
func near(f api.Field, x, y, radius int) []float32 {
	var l []float32
	for j := y - radius; j <= y+radius; j++ {
		for i := x - radius; i <= x+radius; i++ {
			l = append(l, f.V[(j-f.Y)*f.W+i-f.X])
		}
	}
	return l
}

func eachNear(f api.Field, radius int, of func(l []float32) float32) api.Field {
	g := api.Field{Region: region(f.X+radius, f.Y+radius, f.W-2*radius, f.H-2*radius)}
	for y := g.Y; y < g.Y+g.H; y++ {
		for x := g.X; x < g.X+g.W; x++ {
			g.V = append(g.V, of(near(f, x, y, radius)))
		}
	}
	return g
}

// P8, G6: Kernel adds rounded products in order, of kernels that are not the same from all sides.
func TestKernel(t *testing.T) {
	n := &numbers{state: 12}
	for _, r := range []api.Region{region(-4, 6, 23, 17), region(0, 0, 15, 15), region(-9, -9, 15, 31)} {
		f := n.field(r, func() float32 { return n.single() * 100 })
		for side := 1; side <= api.MaxKernel; side += 2 {
			k := n.field(region(0, 0, side, side), n.single).V
			want := eachNear(f, side/2, func(l []float32) float32 {
				s := times(k[0], l[0])
				for i := 1; i < len(l); i++ {
					s = plus(s, times(k[i], l[i]))
				}
				return s
			})
			g, e := field.Kernel(f, k, side)
			wantField(t, "Kernel", g, e, want)
		}
	}
}

// P8, G6: a kernel of one weight tells which cell it means, and keeps the sign of a zero.
func TestKernelOfOneWeight(t *testing.T) {
	f := of(5, 7, 3, 3, 1, 2, 3, 4, 5, 6, 7, 8, 9)
	for i, v := range f.V {
		k := make([]float32, 9)
		k[i] = 2
		g, e := field.Kernel(f, k, 3)
		wantField(t, "Kernel", g, e, of(6, 8, 1, 1, 2*v))
	}
	g, e := field.Kernel(row(1, minusZero, 0), []float32{-1}, 1)
	wantField(t, "Kernel", g, e, row(-1, 0, minusZero))
	g, e = field.Kernel(of(0, 0, 3, 3, 1, 1, 1, 1, 1, 1, 1, 1, 1), make([]float32, 9), 3)
	wantField(t, "Kernel", g, e, of(1, 1, 1, 1, 0))
	all := []float32{minusZero, minusZero, minusZero, minusZero, minusZero, minusZero, minusZero, minusZero, minusZero}
	g, e = field.Kernel(of(0, 0, 3, 3, 1, 1, 1, 1, 1, 1, 1, 1, 1), all, 3)
	wantField(t, "Kernel", g, e, of(1, 1, 1, 1, minusZero))
	// The square of 1 + 2^-12 is rounded ahead of the sum.
	v := float32(1 + 1.0/4096)
	g, e = field.Kernel(of(0, 0, 3, 3, 1, 0, 0, 0, v, 0, 0, 0, 0), []float32{-1 - 1.0/2048, 0, 0, 0, v, 0, 0, 0, 0}, 3)
	wantField(t, "Kernel", g, e, of(1, 1, 1, 1, 0))
	g, e = field.Kernel(of(0, 0, 3, 3, v, 0, 0, 0, 1, 0, 0, 0, 0), []float32{v, 0, 0, 0, -1 - 1.0/2048, 0, 0, 0, 0}, 3)
	wantField(t, "Kernel", g, e, of(1, 1, 1, 1, 0))
}

// P8, G7: on the way values need not be heights; the result must have heights alone.
func TestKernelBeyondHeights(t *testing.T) {
	f := of(0, 0, 3, 3, top, top, 1, top, top, 1, 1, 1, 1)
	g, e := field.Kernel(f, []float32{top, -top, 0, -top, top, 0, 0, 0, 3}, 3)
	wantField(t, "Kernel", g, e, of(1, 1, 1, 1, 3))
	g, e = field.Kernel(f, []float32{1, 0, 0, 0, 0, 0, 0, 0, 1}, 3)
	wantNoField(t, "Kernel", g, e, api.ErrRange)
	g, e = field.Kernel(row(1, top), []float32{-1.0000001}, 1)
	wantNoField(t, "Kernel", g, e, api.ErrRange)
}

// P8: the errors of Kernel, and their order.
func TestKernelErrors(t *testing.T) {
	f := of(0, 0, 3, 2, 1, 2, 3, 4, 5, 6)
	weights := func(many int, v ...float32) []float32 {
		return append(v, make([]float32, many-len(v))...)
	}
	for _, s := range []struct {
		k    []float32
		side int
		want api.Errno
	}{
		{nil, 0, api.ErrRange}, {nil, -1, api.ErrRange}, {nil, 2, api.ErrRange}, {nil, 17, api.ErrRange},
		{weights(4), 2, api.ErrRange}, {weights(196), 14, api.ErrRange}, {weights(289), 17, api.ErrRange},
		{[]float32{1}, -1, api.ErrRange}, {[]float32{nan}, 0, api.ErrRange},
		{nil, math.MaxInt, api.ErrRange}, {nil, math.MinInt, api.ErrRange}, {nil, 1<<32 + 1, api.ErrRange},
		{nil, 1, api.ErrForm}, {weights(2), 1, api.ErrForm}, {weights(8, beyond), 3, api.ErrForm}, {weights(10), 3, api.ErrForm},
		{weights(9, beyond, 0, nan), 3, api.ErrForm}, {weights(9, inf), 3, api.ErrForm}, {[]float32{-inf}, 1, api.ErrForm},
		{weights(9, beyond), 3, api.ErrRange}, {weights(9, 0, -beyond), 3, api.ErrRange},
		{weights(9), 3, api.ErrEmpty}, {weights(225), 15, api.ErrEmpty},
	} {
		g, e := field.Kernel(f, s.k, s.side)
		wantNoField(t, "Kernel", g, e, s.want)
	}
	for _, r := range []api.Region{region(0, 0, 2, 9), region(0, 0, 9, 2), region(0, 0, 1, 1)} {
		g, _ := field.Fill(r, 1)
		h, e := field.Kernel(g, weights(9), 3)
		wantNoField(t, "Kernel", h, e, api.ErrEmpty)
	}
}

// P8, G6: Blur divides the sum in order.
func TestBlur(t *testing.T) {
	n := &numbers{state: 13}
	for _, r := range []api.Region{region(-4, 6, 43, 37), region(100, -100, 33, 33)} {
		f := n.field(r, func() float32 { return n.single() * 1000 })
		for radius := 0; radius <= api.MaxRadius; radius++ {
			want := eachNear(f, radius, func(l []float32) float32 {
				return over(sumInOrder(l), float32(len(l)))
			})
			g, e := field.Blur(f, radius)
			wantField(t, "Blur", g, e, want)
		}
	}
	f := row(1, minusZero, 0, top, -top, tiny)
	g, e := field.Blur(f, 0)
	wantField(t, "Blur", g, e, f)
	f, e = field.Fill(region(0, 0, 33, 33), -top)
	if e != api.OK {
		t.Fatal(e)
	}
	g, e = field.Blur(f, 16)
	wantField(t, "Blur", g, e, of(16, 16, 1, 1, -top))
	f, _ = field.Fill(region(0, 0, 3, 3), minusZero)
	g, e = field.Blur(f, 1)
	wantField(t, "Blur", g, e, of(1, 1, 1, 1, minusZero))
}

// P8: the errors of Blur, and their order.
func TestBlurErrors(t *testing.T) {
	f, _ := field.Fill(region(0, 0, 4, 5), 1)
	for _, s := range []struct {
		radius int
		want   api.Errno
	}{
		{-1, api.ErrRange}, {17, api.ErrRange}, {math.MaxInt, api.ErrRange}, {math.MinInt, api.ErrRange},
		{2, api.ErrEmpty}, {3, api.ErrEmpty}, {16, api.ErrEmpty},
	} {
		g, e := field.Blur(f, s.radius)
		wantNoField(t, "Blur", g, e, s.want)
	}
	f, _ = field.Fill(region(0, 0, 5, 4), 1)
	g, e := field.Blur(f, 2)
	wantNoField(t, "Blur", g, e, api.ErrEmpty)
}
