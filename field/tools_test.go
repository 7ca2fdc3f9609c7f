package field_test

import (
	"math"
	"testing"

	"tarnfell/api"
	"tarnfell/field"
)

// G7: CheckWithin asks for a NaN or an infinity first, and takes both ends.
func TestCheckWithin(t *testing.T) {
	for _, s := range []struct {
		v    float32
		want api.Errno
	}{
		{-1, api.OK}, {2, api.OK}, {minusZero, api.OK}, {tiny, api.OK},
		{nan, api.ErrForm}, {inf, api.ErrForm}, {-inf, api.ErrForm},
		{math.Nextafter32(2, inf), api.ErrRange}, {math.Nextafter32(-1, -inf), api.ErrRange},
		{math.MaxFloat32, api.ErrRange}, {-math.MaxFloat32, api.ErrRange},
	} {
		if e := field.CheckWithin(s.v, -1, 2); e != s.want {
			t.Errorf("CheckWithin(%v): got %d, want %d", s.v, e, s.want)
		}
	}
}

// G6: Floor keeps the signs of zeros.
func TestFloor(t *testing.T) {
	for _, s := range []struct{ v, want float32 }{
		{0, 0}, {minusZero, minusZero}, {tiny, 0}, {-tiny, -1}, {1.5, 1}, {-1.5, -2}, {-2, -2}, {math.MaxFloat32, math.MaxFloat32},
	} {
		wantSingle(t, "Floor", field.Floor(s.v), api.OK, s.want)
	}
}

// P7: Divide rounds towards the lesser numbers.
func TestDivide(t *testing.T) {
	for b := 1; b < 9; b++ {
		for a := -40; a < 40; a++ {
			q, share := field.Divide(a, b)
			i, m := quotient(a, b)
			if q != i {
				t.Errorf("Divide(%d, %d): got %d, want %d", a, b, q, i)
			}
			wantSingle(t, "Divide", share, api.OK, over(float32(m), float32(b)))
		}
	}
}

// P2, G7: Make asks for each place row by row; regions that are none, and values that are no heights, are errors.
func TestMake(t *testing.T) {
	f, e := field.Make(region(-1, 4, 2, 3), func(x, y int) float32 { return float32(10*x + y) })
	wantField(t, "Make", f, e, of(-1, 4, 2, 3, -6, 4, -5, 5, -4, 6))
	for _, s := range badFields() {
		if want := field.CheckRegion(s.f.Region); want != api.OK {
			f, e = field.Make(s.f.Region, func(int, int) float32 { return 0 })
			wantNoField(t, "Make", f, e, want)
		}
	}
	for _, v := range []float32{beyond, -beyond, inf, nan} {
		f, e = field.Make(region(0, 0, 2, 1), func(x, _ int) float32 { return v * float32(x) })
		wantNoField(t, "Make", f, e, api.ErrRange)
	}
}
