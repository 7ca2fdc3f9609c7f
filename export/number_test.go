package export_test

import (
	"math"
	"testing"

	"tarnfell/api"
	"tarnfell/export"
)

func wantHalf(t *testing.T, v float32, want int) {
	t.Helper()
	n, just := export.Half(v)
	if is := wholeOf(want) == v; n != want || just != is {
		t.Errorf("Half of %v: %#x, %v; want %#x, %v", v, n, just, want, is)
	}
}

// around has a single, those beside it, and the same with another sign.
func around(v float32) []float32 {
	return []float32{v, before(v), after(v), -v, -before(v), -after(v)}
}

// P230: Half of all halves, of the middles between them, and of what is beside these.
func TestHalf(t *testing.T) {
	for half := range 0x7c00 {
		low, high := smallHalf(half), smallHalf(half+1)
		for _, v := range append(around(float32(low)), around(float32((low+high)/2))...) {
			wantHalf(t, v, halfOf(v))
		}
	}
	n := &numbers{state: 1}
	for range 100000 {
		for _, v := range []float32{math.Float32frombits(n.next()), n.single() * 70000, n.single() * 0x1p-13} {
			wantHalf(t, v, halfOf(v))
		}
	}
}

// P230: known halves.
func TestKnownHalves(t *testing.T) {
	for _, s := range []struct {
		v    float32
		want int
		just bool
	}{
		{0, 0, true}, {minusZero, 0x8000, true}, {1, 0x3c00, true}, {-2, 0xc000, true}, {0.5, 0x3800, true},
		{65504, 0x7bff, true}, {65519.996, 0x7bff, false}, {65520, 0x7c00, false}, {-65520, 0xfc00, false}, {65536, 0x7c00, false}, {top, 0x7c00, false},
		{math.MaxFloat32, 0x7c00, false}, {-math.MaxFloat32, 0xfc00, false}, {inf, 0x7c00, true}, {-inf, 0xfc00, true}, {nan, 0x7e00, false}, {-nan, 0x7e00, false},
		{math.Float32frombits(0xffffffff), 0x7e00, false}, {math.Float32frombits(0x7f800001), 0x7e00, false},
		{0x1p-14, 0x0400, true}, {0x1p-24, 1, true}, {0x1p-25, 0, false}, {-0x1p-25, 0x8000, false}, {0x1.000002p-25, 1, false}, {0x3p-25, 2, false}, {0x5p-25, 2, false},
		{tiny, 0, false}, {-tiny, 0x8000, false}, {1 + 0x1p-11, 0x3c00, false}, {1 + 0x3p-11, 0x3c02, false}, {0x1.ffep-15, 0x0400, false}, {0x1.ff8p-15, 0x03ff, true},
	} {
		if n, just := export.Half(s.v); n != s.want || just != s.just {
			t.Errorf("Half of %v: %#x, %v; want %#x, %v", s.v, n, just, s.want, s.just)
		}
	}
}

// P230: Whole and Long of all numbers, and back.
func TestWholeAndLong(t *testing.T) {
	for n := range 1 << 16 {
		v, e := export.Whole(n)
		if n%0x8000 >= 0x7c00 {
			wantNothing(t, "Whole", v != 0, e, api.ErrForm)
		} else {
			wantSingle(t, "Whole", v, e, wholeOf(n))
			if half, just := export.Half(v); half != n || !just {
				t.Errorf("Half of Whole of %#x: %#x, %v", n, half, just)
			}
		}
		v, e = export.Long(n)
		if n%0x8000 >= 0x7f80 {
			wantNothing(t, "Long", v != 0, e, api.ErrForm)
		} else {
			wantSingle(t, "Long", v, e, math.Float32frombits(uint32(n)<<16))
			if short := export.Short(v); short != n {
				t.Errorf("Short of Long of %#x: %#x", n, short)
			}
		}
	}
	for _, n := range outside(0, 1<<16-1) {
		v, e := export.Whole(n)
		wantNothing(t, "Whole", v != 0, e, api.ErrRange)
		v, e = export.Long(n)
		wantNothing(t, "Long", v != 0, e, api.ErrRange)
	}
	v, e := export.Long(0x7f7f)
	wantSingle(t, "Long of what is no height", v, e, 0x1.fep127)
}

// P230: Short of all shorts, of the middles between them, and of what is beside these.
func TestShort(t *testing.T) {
	wantShort := func(v float32) {
		t.Helper()
		if n := export.Short(v); n != shortOf(v) {
			t.Errorf("Short of %v: %#x, want %#x", v, n, shortOf(v))
		}
	}
	for short := range 0x7f80 {
		for _, v := range append(around(math.Float32frombits(uint32(short)<<16)), around(math.Float32frombits(uint32(short)<<16|0x8000))...) {
			wantShort(v)
		}
	}
	n := &numbers{state: 2}
	for range 100000 {
		wantShort(math.Float32frombits(n.next()))
	}
	for _, s := range []struct {
		v    float32
		want int
	}{
		{0, 0}, {minusZero, 0x8000}, {1, 0x3f80}, {-1, 0xbf80}, {1 + 0x1p-8, 0x3f80}, {1 + 0x3p-8, 0x3f82}, {1 + 0x1.02p-8, 0x3f81},
		{inf, 0x7f80}, {-inf, 0xff80}, {math.MaxFloat32, 0x7f80}, {nan, 0x7fc0}, {-nan, 0x7fc0}, {math.Float32frombits(0xff800001), 0x7fc0}, {tiny, 0}, {-tiny, 0x8000}, {math.Float32frombits(0x8001), 1},
	} {
		if n := export.Short(s.v); n != s.want {
			t.Errorf("Short of %v: %#x, want %#x", s.v, n, s.want)
		}
	}
}

// P230: how far halves and shorts are from what they stand for.
func TestNumbersAreNear(t *testing.T) {
	n := &numbers{state: 3}
	halves, shorts := 0, 0
	for range 100000 {
		v := n.height(top)
		if n.between(0, 1) == 0 {
			v = n.single() * 65504
		}
		if much := math.Abs(float64(v)); much >= 0x1p-14 && much <= 65504 {
			halves++
			half, _ := export.Half(v)
			near, e := export.Whole(half)
			if d := math.Abs(float64(near) - float64(v)); e != api.OK || d > much*0x1p-11 {
				t.Errorf("the half of %v is %v, error %d", v, near, e)
			}
		}
		if much := math.Abs(float64(v)); much >= 0x1p-100 {
			shorts++
			near, e := export.Long(export.Short(v))
			if d := math.Abs(float64(near) - float64(v)); e != api.OK || d > much*0x1p-8 {
				t.Errorf("the short of %v is %v, error %d", v, near, e)
			}
		}
	}
	if halves < 40000 || shorts < 40000 {
		t.Error("too few numbers:", halves, shorts)
	}
}
