package field_test

import (
	"math"
	"testing"

	"tarnfell/api"
	"tarnfell/field"
)

// mixed is a + (b - a) * s, each operation rounded.
func mixed(a, b, s float32) float32 { return plus(a, times(minus(b, a), s)) }

// bilinear tells the value at the shares s and t behind the cell (i, j), and whether all needed cells are there.
func bilinear(f api.Field, i, j int, s, t float32) (float32, bool) {
	at := func(x, y int) float32 {
		if !covers(f.Region, x, y) {
			return nan
		}
		return f.V[(y-f.Y)*f.W+x-f.X]
	}
	p, q := at(i, j), at(i, j+1)
	if s != 0 {
		p, q = mixed(p, at(i+1, j), s), mixed(q, at(i+1, j+1), s)
	}
	if t != 0 {
		p = mixed(p, q, t)
	}
	return p, p == p
}

func checkBilinear(t *testing.T, f api.Field, x, y float32) {
	t.Helper()
	i, j := down(x), down(y)
	want, there := bilinear(f, int(i), int(j), minus(x, i), minus(y, j))
	v, e := field.Bilinear(f, x, y)
	if there {
		wantSingle(t, "Bilinear", v, e, want)
	} else {
		wantNoSingle(t, "Bilinear", v, e, api.ErrPlace)
	}
}

// P6, G6: Bilinear, between cells, on them, at the edges, and beyond.
func TestBilinear(t *testing.T) {
	n := &numbers{state: 10}
	for _, r := range []api.Region{region(-3, -2, 6, 5), region(7, 9, 1, 4), region(7, 9, 4, 1), region(0, 0, 1, 1), region(-1, -1, 2, 2)} {
		f := n.field(r, func() float32 { return n.single() * 1000 })
		for y := float32(r.Y - 2); y < float32(r.Y+r.H+2); y += 0.25 {
			for x := float32(r.X - 2); x < float32(r.X+r.W+2); x += 0.25 {
				checkBilinear(t, f, x, y)
			}
		}
		for range 3000 {
			x := float32(r.X) + (n.single()+0.5)*float32(r.W)
			y := float32(r.Y) + (n.single()+0.5)*float32(r.H)
			checkBilinear(t, f, x, y)
			checkBilinear(t, f, down(x), y)
			checkBilinear(t, f, x, down(y))
		}
	}
}

// P6: on a cell, or on a line of cells, no other ones are needed, nor looked at.
func TestBilinearNeedsNoMore(t *testing.T) {
	f := of(4, 4, 2, 2, minusZero, 1, 2, minusZero)
	for _, s := range []struct{ x, y, want float32 }{
		{4, 4, minusZero}, {5, 5, minusZero}, {5, 4, 1}, {4, 5, 2},
		{4, 4.5, 1}, {5, 4.25, 0.75}, {4.5, 4, 0.5}, {4.75, 5, 0.5}, {4.5, 4.5, 0.75},
	} {
		v, e := field.Bilinear(f, s.x, s.y)
		wantSingle(t, "Bilinear", v, e, s.want)
	}
	for _, s := range []api.Spot{{X: 5.5, Y: 4}, {X: 4, Y: 5.5}, {X: 3.5, Y: 4}, {X: 4, Y: 3.5}, {X: 6, Y: 4}, {X: 4, Y: 6}, {X: 5.0000005, Y: 5}} {
		v, e := field.Bilinear(f, s.X, s.Y)
		wantNoSingle(t, "Bilinear", v, e, api.ErrPlace)
	}
	v, e := field.Bilinear(row(3, 4), minusZero, minusZero)
	wantSingle(t, "Bilinear", v, e, 3)
}

// P6: a share that is rounded up to 1 is a share all the same, so that the next cells are needed.
func TestBilinearSharesOfOne(t *testing.T) {
	for _, x := range []float32{-tiny, -1e-30, -1e-9} {
		v, e := field.Bilinear(of(-1, 0, 2, 1, 5, 7), x, 0)
		wantSingle(t, "Bilinear", v, e, 7)
		v, e = field.Bilinear(of(0, -1, 1, 2, 5, 7), 0, x)
		wantSingle(t, "Bilinear", v, e, 7)
		v, e = field.Bilinear(of(0, 0, 2, 1, 5, 7), x, 0)
		wantNoSingle(t, "Bilinear", v, e, api.ErrPlace)
		v, e = field.Bilinear(of(-1, 0, 1, 1, 5), x, 0)
		wantNoSingle(t, "Bilinear", v, e, api.ErrPlace)
		// The difference of both is rounded: with the share 1 this is not the second one.
		v, e = field.Bilinear(of(-1, 0, 2, 1, top, tiny), x, 0)
		wantSingle(t, "Bilinear", v, e, 0)
	}
	// A share near 0 is one as well.
	v, e := field.Bilinear(of(0, 0, 1, 1, 5), tiny, 0)
	wantNoSingle(t, "Bilinear", v, e, api.ErrPlace)
	v, e = field.Bilinear(of(0, 0, 2, 1, 5, 7), tiny, 0)
	wantSingle(t, "Bilinear", v, e, 5)
}

// P6: the errors of Bilinear; places need not be heights.
func TestBilinearErrors(t *testing.T) {
	f := of(-1, -1, 3, 3, 1, 2, 3, 4, 5, 6, 7, 8, 9)
	for _, s := range []struct {
		x, y float32
		want api.Errno
	}{
		{nan, 0, api.ErrForm}, {0, nan, api.ErrForm}, {inf, 0, api.ErrForm}, {0, -inf, api.ErrForm},
		{1e30, nan, api.ErrForm}, {nan, 1e30, api.ErrForm},
		{beyond, 0, api.ErrPlace}, {0, -beyond, api.ErrPlace},
		{math.MaxFloat32, 0, api.ErrPlace}, {0, -math.MaxFloat32, api.ErrPlace},
		{1 << 62, 0, api.ErrPlace}, {0, 1 << 63, api.ErrPlace}, {0, -1 << 63, api.ErrPlace}, {1 << 32, 1 << 32, api.ErrPlace},
		{1 << 64, 0, api.ErrPlace}, {0, -1 << 64, api.ErrPlace},
	} {
		v, e := field.Bilinear(f, s.x, s.y)
		wantNoSingle(t, "Bilinear", v, e, s.want)
	}
	far := float32(api.MaxPlace)
	g := of(api.MaxPlace-2, -api.MaxPlace, 2, 2, 1, 2, 3, 4)
	v, e := field.Bilinear(g, far-1.5, 1-far)
	wantSingle(t, "Bilinear", v, e, 3.5)
	for _, s := range []api.Spot{{X: far, Y: -far}, {X: far - 0.5, Y: -far}, {X: far - 2, Y: -far - 0.5}, {X: far + 1, Y: -far}} {
		v, e = field.Bilinear(g, s.X, s.Y)
		wantNoSingle(t, "Bilinear", v, e, api.ErrPlace)
	}
}

// quotient rounds towards the lesser numbers.
func quotient(a, b int) (int, int) {
	i := int(math.Floor(float64(a) / float64(b)))
	return i, a - i*b
}

func checkResample(t *testing.T, f api.Field, r api.Region, num, den int) {
	t.Helper()
	want, all := api.Field{Region: r}, true
	for y := r.Y; y < r.Y+r.H; y++ {
		for x := r.X; x < r.X+r.W; x++ {
			i, m := quotient(x*num, den)
			j, n := quotient(y*num, den)
			v, there := bilinear(f, i, j, over(float32(m), float32(den)), over(float32(n), float32(den)))
			want.V = append(want.V, v)
			all = all && there
		}
	}
	g, e := field.Resample(f, r, num, den)
	if all {
		wantField(t, "Resample", g, e, want)
	} else {
		wantNoField(t, "Resample", g, e, api.ErrPlace)
	}
}

// P7, G6: Resample, to finer and to coarser regions, on both sides of 0.
func TestResample(t *testing.T) {
	n := &numbers{state: 11}
	f := n.field(region(-20, -15, 40, 30), n.height)
	for num := 1; num <= 8; num++ {
		for den := 1; den <= 8; den++ {
			checkResample(t, f, region(-14*den/num+2, -9*den/num+2, 1+20*den/num, 1+15*den/num), num, den)
		}
	}
	checkResample(t, f, region(-60, -60, 150, 130), 21, 64)
	checkResample(t, f, region(0, 0, 1, 1), 64, 1)
	checkResample(t, f, region(-5, -5, 20, 20), 1, 64)
	checkResample(t, f, region(-5, -5, 20, 20), 63, 64)
	g, e := field.Resample(f, f.Region, 64, 64)
	wantField(t, "Resample", g, e, f)
	part, _ := field.Cut(f, region(-20, -15, 20, 15))
	g, e = field.Resample(f, part.Region, 2, 2)
	wantField(t, "Resample", g, e, part)
}

// P7: cells at the edge of the field, of which no further ones are needed.
func TestResampleAtEdges(t *testing.T) {
	f := of(-1, -1, 3, 3, 0, 3, 6, 9, 12, 15, 18, 21, minusZero)
	g, e := field.Resample(f, region(-3, -3, 7, 1), 1, 3)
	wantField(t, "Resample", g, e, of(-3, -3, 7, 1, 0, 1, 2, 3, 4, 5, 6))
	g, e = field.Resample(f, region(-2, 0, 1, 1), 1, 3)
	wantField(t, "Resample", g, e, of(-2, 0, 1, 1, 10))
	g, e = field.Resample(f, region(3, 3, 1, 1), 1, 3)
	wantField(t, "Resample", g, e, of(3, 3, 1, 1, minusZero))
	for _, r := range []api.Region{region(-4, -3, 7, 1), region(-3, -3, 8, 1), region(-3, -4, 1, 1), region(0, 4, 1, 1), region(3, 3, 2, 1)} {
		checkResample(t, f, r, 1, 3)
		g, e = field.Resample(f, r, 1, 3)
		wantNoField(t, "Resample", g, e, api.ErrPlace)
	}
}

// P7: the errors of Resample, and their order.
func TestResampleErrors(t *testing.T) {
	f := row(1, 2, 3)
	for _, s := range []struct {
		r        api.Region
		num, den int
		want     api.Errno
	}{
		{region(0, 0, 0, 1), 0, 0, api.ErrRange},
		{region(0, 0, 512, 512), 0, 0, api.ErrLarge},
		{region(api.MaxPlace, 0, 1, 1), 0, 0, api.ErrPlace},
		{region(9, 9, 1, 1), 0, 1, api.ErrRange},
		{region(9, 9, 1, 1), 1, 0, api.ErrRange},
		{region(9, 9, 1, 1), 65, 1, api.ErrRange},
		{region(9, 9, 1, 1), 1, 65, api.ErrRange},
		{region(9, 9, 1, 1), -1, 1, api.ErrRange},
		{region(9, 9, 1, 1), 1, -1, api.ErrRange},
		{region(9, 9, 1, 1), math.MinInt, math.MinInt, api.ErrRange},
		{region(0, 0, 1, 1), math.MaxInt, math.MaxInt, api.ErrRange},
		{region(9, 9, 1, 1), 1, 1, api.ErrPlace},
		{region(api.MaxPlace-1, -api.MaxPlace, 1, 1), 64, 1, api.ErrPlace},
		{region(0, 0, 4, 1), 1, 1, api.ErrPlace},
		{region(0, 0, 2, 1), 3, 1, api.ErrPlace},
	} {
		g, e := field.Resample(f, s.r, s.num, s.den)
		wantNoField(t, "Resample", g, e, s.want)
	}
}
