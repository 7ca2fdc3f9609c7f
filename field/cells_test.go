package field_test

import (
	"math"
	"testing"

	"tarnfell/api"
	"tarnfell/field"
)

// lesserOf and greaterOf give the first one of equal values.
func lesserOf(a, b float32) float32 {
	if b < a {
		return b
	}
	return a
}

func greaterOf(a, b float32) float32 {
	if b > a {
		return b
	}
	return a
}

// P3, G6: Combine does each operation cell by cell, each one rounded to a single.
func TestCombine(t *testing.T) {
	n := &numbers{state: 3}
	r := region(-3, 8, 40, 30)
	small := func() float32 { return n.single() * 900 }
	for range 5 {
		a, b := n.field(r, small), n.field(r, small)
		a.V[1], b.V[1] = 0.1, 0.2
		a.V[2], b.V[2] = 1, 3
		a.V[3], b.V[3] = 512, 1.0/1024
		a.V[4], b.V[4] = 7, 7
		for op, do := range map[int]func(a, b float32) float32{
			api.OpAdd: plus, api.OpSub: minus, api.OpMul: times, api.OpLess: lesserOf, api.OpMore: greaterOf,
			api.OpOver: func(a, b float32) float32 {
				if a > b {
					return 1
				}
				return 0
			},
		} {
			want := api.Field{Region: r}
			for i := range a.V {
				want.V = append(want.V, do(a.V[i], b.V[i]))
			}
			f, e := field.Combine(op, a, b)
			wantField(t, "Combine", f, e, want)
		}
	}
}

// P3, G6: quotients are rounded to singles; numbers near zero are singles as well.
func TestCombineDivides(t *testing.T) {
	n := &numbers{state: 4}
	r := region(0, 0, 32, 32)
	a := n.field(r, n.single)
	b := n.field(r, func() float32 { return n.single()*100 + 1000 })
	want := api.Field{Region: r}
	for i := range a.V {
		want.V = append(want.V, over(a.V[i], b.V[i]))
	}
	f, e := field.Combine(api.OpDiv, a, b)
	wantField(t, "Combine", f, e, want)
	f, e = field.Combine(api.OpDiv, row(1e-40, 0, minusZero, tiny), row(2, -3, 5, tiny))
	wantField(t, "Combine", f, e, row(5e-41, minusZero, minusZero, 1))
	f, e = field.Combine(api.OpMul, row(tiny, tiny, 1e-30), row(0.5, 0.75, 1e-30))
	wantField(t, "Combine", f, e, row(0, tiny, 0))
	f, e = field.Combine(api.OpSub, row(1, 3e-45, top), row(1, tiny, top))
	wantField(t, "Combine", f, e, row(0, tiny, 0))
}

// P3, G6: of two equal values the lesser and the greater one is the first one, to the bit.
func TestCombineOfZeros(t *testing.T) {
	a, b := row(0, minusZero, 0, minusZero), row(minusZero, 0, 0, minusZero)
	for op, want := range map[int]api.Field{
		api.OpLess: a,
		api.OpMore: a,
		api.OpOver: row(0, 0, 0, 0),
		api.OpAdd:  row(0, 0, 0, minusZero),
		api.OpSub:  row(0, minusZero, 0, 0),
		api.OpMul:  row(minusZero, minusZero, 0, 0),
	} {
		f, e := field.Combine(op, a, b)
		wantField(t, "Combine of zeros", f, e, want)
	}
	f, e := field.Combine(api.OpOver, row(1, 2, 2), row(2, 2, 1))
	wantField(t, "Combine", f, e, row(0, 0, 1))
}

// P3: the errors of Combine, and their order.
func TestCombineErrors(t *testing.T) {
	one, moved := row(1), of(1, 0, 1, 1, 0)
	for _, op := range []int{0, -1, 8, math.MaxInt, math.MinInt} {
		f, e := field.Combine(op, one, moved)
		wantNoField(t, "Combine", f, e, api.ErrKind)
	}
	for op := api.OpAdd; op <= api.OpOver; op++ {
		for _, b := range []api.Field{moved, of(0, 1, 1, 1, 0), row(0, 1), of(0, 0, 1, 2, 0, 1)} {
			f, e := field.Combine(op, one, b)
			wantNoField(t, "Combine", f, e, api.ErrPlace)
		}
	}
	for _, zero := range []float32{0, minusZero} {
		f, e := field.Combine(api.OpDiv, row(1, 1), row(1, zero))
		wantNoField(t, "Combine", f, e, api.ErrRange)
		f, e = field.Combine(api.OpDiv, row(0, 0), row(1, zero))
		wantNoField(t, "Combine", f, e, api.ErrRange)
	}
}

// P3, G7: a result that is no height is an error.
func TestCombineBeyondHeights(t *testing.T) {
	for _, s := range []struct {
		op   int
		a, b float32
	}{
		{api.OpAdd, top, 1}, {api.OpAdd, -top, -0.125}, {api.OpAdd, top, top},
		{api.OpSub, top, -1}, {api.OpSub, -top, 1},
		{api.OpMul, top, 1.0000001}, {api.OpMul, -top, top},
		{api.OpDiv, top, 0.5}, {api.OpDiv, top, tiny}, {api.OpDiv, -1, tiny},
	} {
		f, e := field.Combine(s.op, row(1, s.a), row(1, s.b))
		wantNoField(t, "Combine", f, e, api.ErrRange)
	}
	f, e := field.Combine(api.OpAdd, row(top, -top, top-1), row(0.0625, -0.0625, 1))
	wantField(t, "Combine", f, e, row(top, -top, top))
	f, e = field.Combine(api.OpDiv, row(top, 3e-45), row(1, 3e-45))
	wantField(t, "Combine", f, e, row(top, 1))
}

// P4, G6: Scale rounds the product ahead of the sum.
func TestScale(t *testing.T) {
	n := &numbers{state: 5}
	for range 20 {
		f := n.field(region(9, 9, 20, 20), n.single)
		m, c := n.single()*1000, n.single()*1000
		want := api.Field{Region: f.Region}
		for _, v := range f.V {
			want.V = append(want.V, plus(times(v, m), c))
		}
		g, e := field.Scale(f, m, c)
		wantField(t, "Scale", g, e, want)
	}
	// 1 + 2^-12 squared is 1 + 2^-11 + 2^-24, of which a single keeps 1 + 2^-11.
	v := float32(1 + 1.0/4096)
	g, e := field.Scale(row(v, 0, minusZero), v, -1-1.0/2048)
	wantField(t, "Scale", g, e, row(0, -1-1.0/2048, -1-1.0/2048))
	g, e = field.Scale(row(0, minusZero), 1, minusZero)
	wantField(t, "Scale", g, e, row(0, minusZero))
	g, e = field.Scale(row(0, minusZero), 1, 0)
	wantField(t, "Scale", g, e, row(0, 0))
}

// P4, G7: the errors of Scale.
func TestScaleErrors(t *testing.T) {
	for _, s := range []struct {
		v, m, c float32
		want    api.Errno
	}{
		{1, nan, 0, api.ErrForm}, {1, 0, inf, api.ErrForm}, {1, -inf, 0, api.ErrForm},
		{1, beyond, nan, api.ErrForm}, {1, beyond, 0, api.ErrRange}, {1, 0, -beyond, api.ErrRange},
		{top, 2, 0, api.ErrRange}, {-top, 1, -1, api.ErrRange}, {top, top, top, api.ErrRange},
	} {
		f, e := field.Scale(row(0, s.v), s.m, s.c)
		wantNoField(t, "Scale", f, e, s.want)
	}
	// On the way values need not be heights.
	f, e := field.Scale(row(top), 2, -top)
	wantField(t, "Scale", f, e, row(top))
}

// P4: Clamp leaves what lies between its bounds as it is, to the bit.
func TestClamp(t *testing.T) {
	f := of(3, 4, 3, 3, -2, -1, minusZero, 0, 0.5, 1, 2, top, -top)
	for _, s := range []struct {
		low, high float32
		want      []float32
	}{
		{-1, 1, []float32{-1, -1, minusZero, 0, 0.5, 1, 1, 1, -1}},
		{0, 0, []float32{0, 0, minusZero, 0, 0, 0, 0, 0, 0}},
		{minusZero, minusZero, []float32{minusZero, minusZero, minusZero, 0, minusZero, minusZero, minusZero, minusZero, minusZero}},
		{0, minusZero, []float32{0, 0, minusZero, 0, minusZero, minusZero, minusZero, minusZero, 0}},
		{3, 3, []float32{3, 3, 3, 3, 3, 3, 3, 3, 3}},
		{-top, top, f.V},
		{minusZero, 1, []float32{minusZero, minusZero, minusZero, 0, 0.5, 1, 1, 1, minusZero}},
	} {
		g, e := field.Clamp(f, s.low, s.high)
		wantField(t, "Clamp", g, e, of(3, 4, 3, 3, s.want...))
	}
	for _, s := range []struct {
		low, high float32
		want      api.Errno
	}{
		{nan, 0, api.ErrForm}, {0, nan, api.ErrForm}, {-inf, inf, api.ErrForm}, {inf, -inf, api.ErrForm},
		{beyond, nan, api.ErrForm}, {-beyond, 0, api.ErrRange}, {0, beyond, api.ErrRange}, {beyond, 0, api.ErrRange},
		{1, 0, api.ErrOrder}, {tiny, 0, api.ErrOrder}, {0, -tiny, api.ErrOrder},
	} {
		g, e := field.Clamp(f, s.low, s.high)
		wantNoField(t, "Clamp", g, e, s.want)
	}
}

// P4, G6: Blend rounds each operation.
func TestBlend(t *testing.T) {
	n := &numbers{state: 6}
	r := region(-9, 0, 30, 20)
	for range 10 {
		a, b := n.field(r, n.height), n.field(r, n.height)
		w := n.field(r, func() float32 { return float32(math.Abs(float64(n.single()))) })
		w.V[0], w.V[1], w.V[2] = 0, 1, minusZero
		want := api.Field{Region: r}
		for i := range a.V {
			want.V = append(want.V, plus(a.V[i], times(minus(b.V[i], a.V[i]), w.V[i])))
		}
		f, e := field.Blend(a, b, w)
		wantField(t, "Blend", f, e, want)
	}
	// With 0 it is a + 0; with 1 it need not be b.
	f, e := field.Blend(row(5, minusZero, -7, 1, top), row(9, 3, -7, tiny, -top), row(0, 0, 0.3, 1, 1))
	wantField(t, "Blend", f, e, row(5, 0, -7, 0, -top))
}

// P4: the errors of Blend, and their order.
func TestBlendErrors(t *testing.T) {
	a := row(1, 2)
	for _, w := range []float32{-tiny, 1.0000001, 2, -1, top} {
		f, e := field.Blend(a, a, row(0.5, w))
		wantNoField(t, "Blend", f, e, api.ErrRange)
	}
	f, e := field.Blend(a, of(1, 0, 2, 1, 1, 2), row(0, 2))
	wantNoField(t, "Blend", f, e, api.ErrPlace)
	f, e = field.Blend(a, a, of(0, 1, 2, 1, 0, 2))
	wantNoField(t, "Blend", f, e, api.ErrPlace)
	f, e = field.Blend(a, of(0, 0, 1, 2, 1, 2), of(0, 0, 1, 2, 1, 1))
	wantNoField(t, "Blend", f, e, api.ErrPlace)
}
