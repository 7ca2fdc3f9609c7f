package field_test

import (
	"math"
	"testing"

	"tarnfell/api"
	"tarnfell/field"
)

// P2, G7: the errors of Check, and their order.
func TestCheck(t *testing.T) {
	for _, f := range []api.Field{
		row(0), row(minusZero), row(tiny, -tiny), row(top, -top), of(-api.MaxPlace, 7, 2, 2, 1, 2, 3, 4),
	} {
		if e := field.Check(f); e != api.OK {
			t.Error("Check", f, e)
		}
	}
	for _, s := range badFields() {
		if e := field.Check(s.f); e != s.want {
			t.Errorf("Check of a field with %s: got %d, want %d", s.name, e, s.want)
		}
	}
}

// P2: all functions with fields return the error of Check first, for each field in order.
func TestFieldsAreCheckedFirst(t *testing.T) {
	good := row(1, 1)
	for _, s := range badFields() {
		for _, m := range makers() {
			for bad := range m.in {
				l := []api.Field{good, good, good}
				l[bad] = s.f
				f, e := m.make(l)
				wantNoField(t, m.name+" with "+s.name, f, e, s.want)
				for next := bad + 1; next < m.in; next++ {
					l[next] = of(0, 0, 512, 512)
					f, e = m.make(l)
					wantNoField(t, m.name+" with "+s.name+" ahead of a large field", f, e, s.want)
				}
			}
		}
		for _, g := range tellers() {
			if zero, e := g.tell(s.f); !zero || e != s.want {
				t.Errorf("%s of a field with %s: zero %v, error %d; want %d", g.name, s.name, zero, e, s.want)
			}
		}
	}
}

// P2: a bad field comes ahead of the errors of all other arguments.
func TestFieldsAreCheckedAheadOfArguments(t *testing.T) {
	bad := row(beyond)
	want := api.ErrRange
	large := of(0, 0, 512, 512)
	f, e := field.Cut(large, region(0, 0, 0, 0))
	wantNoField(t, "Cut", f, e, api.ErrLarge)
	f, e = field.Combine(0, row(1), bad)
	wantNoField(t, "Combine", f, e, want)
	f, e = field.Combine(api.OpAdd, of(5, 5, 1, 1, 1), bad)
	wantNoField(t, "Combine", f, e, want)
	f, e = field.Scale(bad, nan, nan)
	wantNoField(t, "Scale", f, e, want)
	f, e = field.Clamp(bad, nan, nan)
	wantNoField(t, "Clamp", f, e, want)
	f, e = field.Blend(row(1), of(5, 5, 1, 1, 1), bad)
	wantNoField(t, "Blend", f, e, want)
	f, e = field.Resample(large, region(0, 0, 0, 0), 0, 0)
	wantNoField(t, "Resample", f, e, api.ErrLarge)
	f, e = field.Kernel(large, nil, 0)
	wantNoField(t, "Kernel", f, e, api.ErrLarge)
	f, e = field.Blur(large, -1)
	wantNoField(t, "Blur", f, e, api.ErrLarge)
	v, e := field.At(large, 9999, 9999)
	wantNoSingle(t, "At", v, e, api.ErrLarge)
	v, e = field.Sum(bad, 0)
	wantNoSingle(t, "Sum", v, e, want)
	v, e = field.Rank(large, -1)
	wantNoSingle(t, "Rank", v, e, api.ErrLarge)
	v, e = field.Bilinear(bad, nan, nan)
	wantNoSingle(t, "Bilinear", v, e, want)
	if l, e := field.Histogram(bad, nan, nan, 0); len(l) != 0 || e != want {
		t.Error("Histogram", l, e)
	}
}

// P2: Fill.
func TestFill(t *testing.T) {
	for _, h := range []float32{0, minusZero, 1.5, top, -top, tiny} {
		f, e := field.Fill(region(-3, 4, 2, 3), h)
		wantField(t, "Fill", f, e, of(-3, 4, 2, 3, h, h, h, h, h, h))
	}
	for _, s := range []struct {
		r    api.Region
		h    float32
		want api.Errno
	}{
		{region(0, 0, 0, 1), nan, api.ErrRange},
		{region(0, 0, 512, 512), inf, api.ErrLarge},
		{region(0, api.MaxPlace, 1, 1), beyond, api.ErrPlace},
		{region(0, 0, 1, 1), nan, api.ErrForm},
		{region(0, 0, 1, 1), -inf, api.ErrForm},
		{region(0, 0, 1, 1), beyond, api.ErrRange},
		{region(0, 0, 1, 1), -beyond, api.ErrRange},
	} {
		f, e := field.Fill(s.r, s.h)
		wantNoField(t, "Fill", f, e, s.want)
	}
}

// P2: At tells each cell, and nothing beside the field.
func TestAt(t *testing.T) {
	f := of(-2, 5, 3, 2, 1, 2, 3, 4, minusZero, 6)
	for y := 3; y < 9; y++ {
		for x := -4; x < 3; x++ {
			v, e := field.At(f, x, y)
			if covers(f.Region, x, y) {
				wantSingle(t, "At", v, e, f.V[(y-5)*3+x+2])
			} else {
				wantNoSingle(t, "At", v, e, api.ErrPlace)
			}
		}
	}
	for _, far := range []int{math.MaxInt, math.MinInt, 1 << 62, -1 << 62} {
		v, e := field.At(f, far, 5)
		wantNoSingle(t, "At", v, e, api.ErrPlace)
		v, e = field.At(f, -2, far)
		wantNoSingle(t, "At", v, e, api.ErrPlace)
	}
}

// P2: Cut.
func TestCut(t *testing.T) {
	f := of(10, -20, 4, 3, 1, 2, 3, 4, 5, minusZero, 7, 8, 9, 10, 11, 12)
	for _, want := range []api.Field{
		f,
		of(10, -20, 1, 1, 1),
		of(13, -18, 1, 1, 12),
		of(11, -19, 2, 2, minusZero, 7, 10, 11),
		of(10, -19, 4, 1, 5, minusZero, 7, 8),
		of(12, -20, 1, 3, 3, 7, 11),
	} {
		g, e := field.Cut(f, want.Region)
		wantField(t, "Cut", g, e, want)
	}
	for _, s := range []struct {
		r    api.Region
		want api.Errno
	}{
		{region(0, 0, 0, 0), api.ErrRange},
		{region(10, -20, 1, 513), api.ErrRange},
		{region(10, -20, 512, 512), api.ErrLarge},
		{region(api.MaxPlace, 0, 1, 1), api.ErrPlace},
		{region(9, -20, 2, 2), api.ErrPlace},
		{region(10, -21, 2, 2), api.ErrPlace},
		{region(11, -20, 4, 1), api.ErrPlace},
		{region(10, -19, 1, 3), api.ErrPlace},
		{region(100, 100, 1, 1), api.ErrPlace},
	} {
		g, e := field.Cut(f, s.r)
		wantNoField(t, "Cut", g, e, s.want)
	}
}

// P2: Paste.
func TestPaste(t *testing.T) {
	f := of(0, 0, 3, 3, 1, 2, 3, 4, 5, 6, 7, 8, 9)
	for _, s := range []struct {
		g    api.Field
		want []float32
	}{
		{f, []float32{1, 2, 3, 4, 5, 6, 7, 8, 9}},
		{of(1, 1, 1, 1, minusZero), []float32{1, 2, 3, 4, minusZero, 6, 7, 8, 9}},
		{of(-1, -1, 2, 2, 10, 20, 30, 40), []float32{40, 2, 3, 4, 5, 6, 7, 8, 9}},
		{of(2, 1, 2, 3, 10, 20, 30, 40, 50, 60), []float32{1, 2, 3, 4, 5, 10, 7, 8, 30}},
		{of(-1, 1, 5, 1, 10, 20, 30, 40, 50), []float32{1, 2, 3, 20, 30, 40, 7, 8, 9}},
	} {
		g, e := field.Paste(f, s.g)
		wantField(t, "Paste", g, e, of(0, 0, 3, 3, s.want...))
	}
	for _, g := range []api.Field{of(3, 0, 1, 1, 1), of(0, 3, 1, 1, 1), of(-1, 0, 1, 1, 1), of(0, -1, 1, 1, 1)} {
		h, e := field.Paste(f, g)
		wantNoField(t, "Paste", h, e, api.ErrPlace)
	}
}

// P2: Same looks at regions and bits, of fields of any form.
func TestSame(t *testing.T) {
	other := math.Float32frombits(math.Float32bits(nan) ^ 1)
	for _, s := range []struct {
		a, b api.Field
		want bool
	}{
		{row(1, 2), row(1, 2), true},
		{row(1, 2), row(1, 3), false},
		{row(1, 2), row(0, 2), false},
		{row(0), row(minusZero), false},
		{row(minusZero), row(minusZero), true},
		{row(nan), row(nan), true},
		{row(nan), row(other), false},
		{row(inf), row(inf), true},
		{row(inf), row(-inf), false},
		{row(1, 2), of(0, 0, 1, 2, 1, 2), false},
		{of(1, 0, 1, 1, 1), of(0, 0, 1, 1, 1), false},
		{of(0, 1, 1, 1, 1), of(0, 0, 1, 1, 1), false},
		{of(0, 0, 1, 1, 1, 2), of(0, 0, 1, 1, 1), false},
		{of(0, 0, 1, 1), of(0, 0, 1, 1, 1), false},
		{of(-5, -5, -5, -5, 1, 2, 3), of(-5, -5, -5, -5, 1, 2, 3), true},
		{api.Field{}, api.Field{V: []float32{}}, true},
	} {
		if field.Same(s.a, s.b) != s.want || field.Same(s.b, s.a) != s.want {
			t.Errorf("Same(%v, %v) is not %v", s.a, s.b, s.want)
		}
	}
}
