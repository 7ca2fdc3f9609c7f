package field_test

import (
	"math"
	"strconv"
	"testing"

	"tarnfell/api"
	"tarnfell/field"
)

// G7: CheckWithin asks for a NaN or an infinity first, and takes both ends.
func TestCheckWithin(t *testing.T) {
	for _, s := range []struct {
		v    float32
		want api.Errno
	}{
		{-1, api.OK}, {2, api.OK}, {minusZero, api.OK}, {tiny, api.OK},
		{nan, api.ErrForm}, {inf, api.ErrForm}, {-inf, api.ErrForm},
		{math.Nextafter32(2, inf), api.ErrRange}, {math.Nextafter32(-1, -inf), api.ErrRange},
		{math.MaxFloat32, api.ErrRange}, {-math.MaxFloat32, api.ErrRange},
	} {
		if e := field.CheckWithin(s.v, -1, 2); e != s.want {
			t.Errorf("CheckWithin(%v): got %d, want %d", s.v, e, s.want)
		}
	}
}

// G7: CheckHeights asks all values for a NaN or an infinity first.
func TestCheckHeights(t *testing.T) {
	for _, s := range []struct {
		v    []float32
		want api.Errno
	}{
		{nil, api.OK}, {[]float32{top, -top, minusZero, tiny}, api.OK},
		{[]float32{1, nan}, api.ErrForm}, {[]float32{beyond, inf}, api.ErrForm}, {[]float32{beyond, 0, -inf, -beyond}, api.ErrForm},
		{[]float32{1, beyond}, api.ErrRange}, {[]float32{-beyond, 1}, api.ErrRange}, {[]float32{math.MaxFloat32}, api.ErrRange},
	} {
		if e := field.CheckHeights(s.v...); e != s.want {
			t.Errorf("CheckHeights(%v): got %d, want %d", s.v, e, s.want)
		}
	}
}

// G6: Root is the nearest single.
func TestRoot(t *testing.T) {
	for _, s := range []struct{ v, want float32 }{
		{0, 0}, {minusZero, minusZero}, {1, 1}, {2, 1.4142135}, {3, 1.7320508}, {25, 5}, {0x1p40, 0x1p20}, {0x1p-148, 0x1p-74}, {math.MaxFloat32, 1.8446743e19},
	} {
		wantSingle(t, "Root", field.Root(s.v), api.OK, s.want)
	}
	n := &numbers{state: 20}
	for range 10000 {
		v := n.height()
		if v < 0 {
			v = -v
		}
		r := float64(field.Root(v))
		low, high := float64(math.Nextafter32(float32(r), -1)), float64(math.Nextafter32(float32(r), inf))
		if r < 0 || r > 0 && (r+low)*(r+low)/4 > float64(v) || (r+high)*(r+high)/4 < float64(v) {
			t.Errorf("Root of %v is %v", v, r)
		}
	}
}

// P2: Has takes any place.
func TestHas(t *testing.T) {
	r := region(-2, 3, 4, 2)
	for y := -1; y < 7; y++ {
		for x := -5; x < 5; x++ {
			if field.Has(r, x, y) != covers(r, x, y) {
				t.Error("Has", x, y)
			}
		}
	}
	for _, far := range []int{math.MaxInt, math.MinInt, 1 << 32, -1 + 1<<33} {
		if field.Has(r, far, 3) || field.Has(r, 0, far) || field.Has(r, far, far) {
			t.Error("Has", far)
		}
	}
}

// G6: Lesser and Greater give the first one of two equal values.
func TestLesserAndGreater(t *testing.T) {
	for _, s := range []struct{ a, b, less, more float32 }{
		{1, 2, 1, 2}, {2, 1, 1, 2}, {-top, tiny, -top, tiny}, {-inf, inf, -inf, inf}, {3, 3, 3, 3},
		{0, minusZero, 0, 0}, {minusZero, 0, minusZero, minusZero}, {minusZero, tiny, minusZero, tiny}, {0, -tiny, -tiny, 0},
	} {
		wantSingle(t, "Lesser", field.Lesser(s.a, s.b), api.OK, s.less)
		wantSingle(t, "Greater", field.Greater(s.a, s.b), api.OK, s.more)
	}
}

// P10: Integer takes what an int is written as, and nothing else.
func TestInteger(t *testing.T) {
	for _, n := range []int{0, 1, -1, 10, -90, math.MaxInt, math.MinInt} {
		if got, right := field.Integer(strconv.Itoa(n)); got != n || !right {
			t.Error("Integer", n, got, right)
		}
	}
	for _, text := range []string{"", "-", "+1", "-0", "00", "01", "-01", "1 ", " 1", "1.0", "1e1", "0x1", "1_0", "a", "9223372036854775808", "-9223372036854775809"} {
		if got, right := field.Integer(text); got != 0 || right {
			t.Error("Integer", text, got, right)
		}
	}
}

// G6: Floor keeps the signs of zeros.
func TestFloor(t *testing.T) {
	for _, s := range []struct{ v, want float32 }{
		{0, 0}, {minusZero, minusZero}, {tiny, 0}, {-tiny, -1}, {1.5, 1}, {-1.5, -2}, {-2, -2}, {math.MaxFloat32, math.MaxFloat32},
	} {
		wantSingle(t, "Floor", field.Floor(s.v), api.OK, s.want)
	}
}

// G6: Magnitude leaves no sign, also of zeros.
func TestMagnitude(t *testing.T) {
	for _, s := range []struct{ v, want float32 }{
		{0, 0}, {minusZero, 0}, {1.5, 1.5}, {-1.5, 1.5}, {tiny, tiny}, {-tiny, tiny}, {-math.MaxFloat32, math.MaxFloat32}, {-inf, inf}, {inf, inf},
	} {
		wantSingle(t, "Magnitude", field.Magnitude(s.v), api.OK, s.want)
	}
}

// P7: Divide rounds towards the lesser numbers.
func TestDivide(t *testing.T) {
	for b := 1; b < 9; b++ {
		for a := -40; a < 40; a++ {
			q, share := field.Divide(a, b)
			i, m := quotient(a, b)
			if q != i {
				t.Errorf("Divide(%d, %d): got %d, want %d", a, b, q, i)
			}
			wantSingle(t, "Divide", share, api.OK, over(float32(m), float32(b)))
		}
	}
}

// P2, G7: Make asks for each place row by row; regions that are none, and values that are no heights, are errors.
func TestMake(t *testing.T) {
	f, e := field.Make(region(-1, 4, 2, 3), func(x, y int) float32 { return float32(10*x + y) })
	wantField(t, "Make", f, e, of(-1, 4, 2, 3, -6, 4, -5, 5, -4, 6))
	for _, s := range badFields() {
		if want := field.CheckRegion(s.f.Region); want != api.OK {
			f, e = field.Make(s.f.Region, func(int, int) float32 { return 0 })
			wantNoField(t, "Make", f, e, want)
		}
	}
	for _, v := range []float32{beyond, -beyond, inf, nan} {
		f, e = field.Make(region(0, 0, 2, 1), func(x, _ int) float32 { return v * float32(x) })
		wantNoField(t, "Make", f, e, api.ErrRange)
	}
}
