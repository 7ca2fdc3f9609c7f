package export_test

import (
	"math"
	"testing"

	"tarnfell/api"
	"tarnfell/export"
)

// badScale is a scaling with what is said of it.
type badScale struct {
	s    api.Scaling
	want api.Errno
}

func badScales() []badScale {
	var l []badScale
	for _, s := range badSingles(-top, top) {
		l = append(l, badScale{api.Scaling{Low: s.v, Step: 1, Bits: 8}, s.want}, badScale{api.Scaling{Low: s.v, Step: -1, Bits: 99}, s.want})
		l = append(l, badScale{api.Scaling{Step: s.v, Bits: 8}, s.want}, badScale{api.Scaling{Low: beyond, Step: s.v}, s.want})
	}
	for _, step := range []float32{0, minusZero, -tiny, -1, -top} {
		l = append(l, badScale{api.Scaling{Step: step, Bits: 8}, api.ErrRange})
	}
	for _, bits := range append(outside(1, 24), 0, 25, 32, 64, 256+8) {
		l = append(l, badScale{api.Scaling{Step: 1, Bits: bits}, api.ErrRange}, badScale{api.Scaling{Low: nan, Step: 1, Bits: bits}, api.ErrForm})
	}
	return l
}

// scales are right ones, of many sizes.
func (n *numbers) scale() api.Scaling {
	return api.Scaling{Low: pickOf(n, 0, minusZero, n.single()*100, n.height(top), -top, top), Step: size(pickOf(n, 1, n.single()*3+4, n.height(top), tiny, top, 0x1p-20)) + tiny, Bits: n.between(1, 24)}
}

// P231: right scalings, and the errors of others, of CheckScale, Level and Value.
func TestCheckScale(t *testing.T) {
	for _, s := range []api.Scaling{{Step: tiny, Bits: 1}, {Low: top, Step: top, Bits: 24}, {Low: -top, Step: 1, Bits: 13}, {Low: minusZero, Step: 0.1, Bits: 24}} {
		wantError(t, "CheckScale", export.CheckScale(s), api.OK)
	}
	for _, s := range badScales() {
		wantError(t, "CheckScale", export.CheckScale(s.s), s.want)
		for _, v := range []float32{0, nan, beyond} {
			n, in, e := export.Level(s.s, v)
			wantNothing(t, "Level", n != 0 || in, e, s.want)
		}
		for _, n := range []int{0, -1, math.MaxInt} {
			v, e := export.Value(s.s, n)
			wantNothing(t, "Value", v != 0, e, s.want)
		}
	}
	for _, s := range badSingles(-top, top) {
		n, in, e := export.Level(api.Scaling{Step: 1, Bits: 8}, s.v)
		wantNothing(t, "Level", n != 0 || in, e, s.want)
	}
}

func wantLevel(t *testing.T, s api.Scaling, v float32) {
	t.Helper()
	want, most := levelOf(s, v), math.Ldexp(1, s.Bits)-1
	n, in, e := export.Level(s, v)
	if is := want >= 0 && want <= most; float64(n) != math.Max(0, math.Min(most, want)) || in != is || e != api.OK {
		t.Errorf("Level of %v with %v: %d, %v, error %d; want %v", v, s, n, in, e, want)
	}
}

// P231: levels and values of all kinds.
func TestLevelAndValue(t *testing.T) {
	n := &numbers{state: 10}
	heights := 0
	for range 100000 {
		s := n.scale()
		most := 1<<s.Bits - 1
		k := pickOf(n, 0, 1, most, most-1, n.between(0, most))
		v, e := export.Value(s, max(k, 0))
		if want := valueOfLevel(s, max(k, 0)); isHeight(want) {
			heights++
			wantSingle(t, "Value", v, e, want)
			wantLevel(t, s, v)
		} else {
			wantNothing(t, "Value", v != 0, e, api.ErrRange)
		}
		wantLevel(t, s, n.height(top))
		near := plus(s.Low, times(float32(k)+n.single(), s.Step))
		if isHeight(near) {
			wantLevel(t, s, near)
		}
		for _, k := range outside(0, most) {
			v, e := export.Value(s, k)
			wantNothing(t, "Value", v != 0, e, api.ErrRange)
		}
	}
	if heights < 20000 {
		t.Error("too few heights:", heights)
	}
}

// P231: known levels, between two of them and at the bounds.
func TestKnownLevels(t *testing.T) {
	for _, c := range []struct {
		s    api.Scaling
		v    float32
		want int
		in   bool
	}{
		{api.Scaling{Low: 10, Step: 0.5, Bits: 3}, 10, 0, true}, {api.Scaling{Low: 10, Step: 0.5, Bits: 3}, 10.25, 1, true}, {api.Scaling{Low: 10, Step: 0.5, Bits: 3}, 10.24, 0, true},
		{api.Scaling{Low: 10, Step: 0.5, Bits: 3}, 9.75, 0, true}, {api.Scaling{Low: 10, Step: 0.5, Bits: 3}, 9.74, 0, false}, {api.Scaling{Low: 10, Step: 0.5, Bits: 3}, 13.74, 7, true},
		{api.Scaling{Low: 10, Step: 0.5, Bits: 3}, 13.75, 7, false}, {api.Scaling{Step: 1, Bits: 1}, 1.4999999, 1, true}, {api.Scaling{Step: 1, Bits: 1}, 1.5, 1, false}, {api.Scaling{Step: 1, Bits: 1}, -0.5, 0, true},
		{api.Scaling{Step: 1, Bits: 1}, -0.50000006, 0, false}, {api.Scaling{Step: tiny, Bits: 24}, 1, 1<<24 - 1, false}, {api.Scaling{Step: tiny, Bits: 24}, -1, 0, false}, {api.Scaling{Step: tiny, Bits: 2}, 3 * tiny, 3, true},
		{api.Scaling{Low: top, Step: tiny, Bits: 24}, -top, 0, false}, {api.Scaling{Low: -top, Step: 0.125, Bits: 24}, top, 1<<24 - 1, false},
		// Where levels are so great, the sum with 0.5 is rounded to a whole number, which can be the next one.
		{api.Scaling{Low: -top, Step: 0.125, Bits: 24}, top - 0.125, 1<<24 - 1, false}, {api.Scaling{Low: -top, Step: 0.125, Bits: 24}, top - 0.25, 1<<24 - 2, true}, {api.Scaling{Low: -top, Step: 0.125, Bits: 24}, 0.125, 1<<23 + 2, true},
	} {
		n, in, e := export.Level(c.s, c.v)
		if n != c.want || in != c.in || e != api.OK {
			t.Errorf("Level of %v with %v: %d, %v, error %d; want %d, %v", c.v, c.s, n, in, e, c.want, c.in)
		}
	}
	v, e := export.Value(api.Scaling{Low: -top, Step: 0.125, Bits: 24}, 1<<24-1)
	wantSingle(t, "Value", v, e, top-0.125)
	v, e = export.Value(api.Scaling{Low: minusZero, Step: 3, Bits: 2}, 0)
	wantSingle(t, "Value", v, e, 0)
	v, e = export.Value(api.Scaling{Low: 1, Step: top, Bits: 24}, 1)
	wantNothing(t, "Value", v != 0, e, api.ErrRange)
	v, e = export.Value(api.Scaling{Low: top, Step: 0.125, Bits: 1}, 1)
	wantNothing(t, "Value", v != 0, e, api.ErrRange)
}

// P231: Fit.
func TestFit(t *testing.T) {
	n := &numbers{state: 11}
	for _, r := range regions() {
		for _, f := range n.fields(r) {
			for bits := 1; bits <= 24; bits++ {
				low, high := f.V[0], f.V[0]
				for _, v := range f.V {
					if v < low {
						low = v
					}
					if v > high {
						high = v
					}
				}
				step := over(minus(high, low), float32(math.Ldexp(1, bits)-1))
				if step < 0x1p-20 {
					step = 0x1p-20
				}
				s, e := export.Fit(f, bits)
				if step > top {
					wantNothing(t, "Fit", s != api.Scaling{}, e, api.ErrRange)
				} else if want := (api.Scaling{Low: low, Step: step, Bits: bits}); s != want || !sameBits(s.Low, low) || e != api.OK {
					t.Errorf("Fit: %v, error %d; want %v", s, e, want)
				}
			}
		}
	}
	for _, c := range []struct {
		f    api.Field
		bits int
		want api.Scaling
	}{
		{row(3, 10), 3, api.Scaling{Low: 3, Step: 1, Bits: 3}}, {row(5), 24, api.Scaling{Low: 5, Step: 0x1p-20, Bits: 24}}, {row(0, 0x7p-20), 3, api.Scaling{Step: 0x1p-20, Bits: 3}},
		{row(0, 0x7.00001p-20), 3, api.Scaling{Step: over(0x7.00001p-20, 7), Bits: 3}}, {row(0, 0x6.fp-20), 3, api.Scaling{Step: 0x1p-20, Bits: 3}}, {row(-top/2, top/2), 1, api.Scaling{Low: -top / 2, Step: top, Bits: 1}},
		{row(-top, top), 2, api.Scaling{Low: -top, Step: over(2*top, 3), Bits: 2}},
	} {
		s, e := export.Fit(c.f, c.bits)
		if s != c.want || e != api.OK {
			t.Errorf("Fit: %v, error %d; want %v", s, e, c.want)
		}
	}
	for _, bits := range append(outside(1, 24), 0) {
		s, e := export.Fit(row(-top, top), bits)
		wantNothing(t, "Fit", s != api.Scaling{}, e, api.ErrRange)
		for _, bad := range badFields() {
			s, e := export.Fit(bad.f, bits)
			wantNothing(t, "Fit", s != api.Scaling{}, e, bad.want)
		}
	}
	s, e := export.Fit(row(-top, top), 1)
	wantNothing(t, "Fit", s != api.Scaling{}, e, api.ErrRange)
	s, e = export.Fit(row(-0.125, top), 1)
	wantNothing(t, "Fit", s != api.Scaling{}, e, api.ErrRange)
}
