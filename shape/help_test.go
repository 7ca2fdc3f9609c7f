package shape_test

import (
	"math"
	"testing"

	"tarnfell/api"
	"tarnfell/shape"
)

var (
	nan       = float32(math.NaN())
	inf       = float32(math.Inf(1))
	minusZero = float32(math.Copysign(0, -1))
)

const (
	top    = float32(api.MaxHeight)
	beyond = top + 0.125 // the least single above all heights
	tiny   = float32(math.SmallestNonzeroFloat32)
)

func region(x, y, w, h int) api.Region { return api.Region{X: x, Y: y, W: w, H: h} }

func of(x, y, w, h int, v ...float32) api.Field {
	return api.Field{Region: region(x, y, w, h), V: v}
}

// row is a field of one row at the place (0, 0).
func row(v ...float32) api.Field { return of(0, 0, len(v), 1, v...) }

// around is a field of 3 by 3 cells, with the middle at (1, 1) and its neighbours; what stands in the corners must not matter.
func around(v, n, w, e, s float32) api.Field {
	return of(0, 0, 3, 3, 77, n, -55, w, v, e, 1e5, s, -0.125)
}

func after(v float32) float32 { return math.Nextafter32(v, inf) }

func before(v float32) float32 { return math.Nextafter32(v, -inf) }

func sameBits(a, b float32) bool { return math.Float32bits(a) == math.Float32bits(b) }

func wantSingle(t *testing.T, what string, v float32, e api.Errno, want float32) {
	t.Helper()
	if e != api.OK || !sameBits(v, want) {
		t.Errorf("%s: got %v, error %d; want %v", what, v, e, want)
	}
}

func wantNoSingle(t *testing.T, what string, v float32, e, want api.Errno) {
	t.Helper()
	if e != want || !sameBits(v, 0) {
		t.Errorf("%s: got %v, error %d; want error %d", what, v, e, want)
	}
}

func wantField(t *testing.T, what string, f api.Field, e api.Errno, want api.Field) {
	t.Helper()
	if e != api.OK || f.Region != want.Region || len(f.V) != len(want.V) {
		t.Errorf("%s: got %d values of %v, error %d; want %d of %v", what, len(f.V), f.Region, e, len(want.V), want.Region)
		return
	}
	for i, v := range f.V {
		if !sameBits(v, want.V[i]) {
			t.Errorf("%s: got %v at (%d, %d), want %v", what, v, f.X+i%f.W, f.Y+i/f.W, want.V[i])
			return
		}
	}
}

func wantNoField(t *testing.T, what string, f api.Field, e, want api.Errno) {
	t.Helper()
	if e != want || f.Region != (api.Region{}) || len(f.V) != 0 {
		t.Errorf("%s: got %v, error %d; want error %d", what, f, e, want)
	}
}

// wantMiddle wants a field of the cell (1, 1) alone.
func wantMiddle(t *testing.T, what string, f api.Field, e api.Errno, want float32) {
	t.Helper()
	wantField(t, what, f, e, of(1, 1, 1, 1, want))
}

func valueAt(f api.Field, x, y int) float32 { return f.V[(y-f.Y)*f.W+x-f.X] }

// eachCell is the field of a region with the value of each place.
func eachCell(r api.Region, value func(x, y int) float32) api.Field {
	f := api.Field{Region: r}
	for i := range r.W * r.H {
		f.V = append(f.V, value(r.X+i%r.W, r.Y+i/r.W))
	}
	return f
}

func smaller(r api.Region, n int) api.Region { return region(r.X+n, r.Y+n, r.W-2*n, r.H-2*n) }

// numbers is a sequence that is the same in every run.
type numbers struct{ state uint64 }

func (n *numbers) next() uint32 {
	n.state = n.state*6364136223846793005 + 1442695040888963407
	return uint32(n.state >> 32)
}

func (n *numbers) between(least, most int) int { return least + int(n.next())%(most-least+1) }

func (n *numbers) place() int { return n.between(-api.MaxPlace, api.MaxPlace) }

// single is from -1 to 1.
func (n *numbers) single() float32 { return float32(int32(n.next())) / (1 << 31) }

// share is from 0 to 1.
func (n *numbers) share() float32 { return float32(n.next()) / (1 << 32) }

// height has any sign, and any magnitude up to most.
func (n *numbers) height(most float32) float32 {
	for {
		if v := math.Float32frombits(n.next()); v >= -most && v <= most {
			return v
		}
	}
}

func (n *numbers) field(r api.Region, value func() float32) api.Field {
	return eachCell(r, func(int, int) float32 { return value() })
}

// fields has fields of several forms, with small integers, with what is near to nothing, with heights of one size and of all sizes.
func (n *numbers) fields(most float32) []api.Field {
	var l []api.Field
	for _, r := range []api.Region{region(0, 0, 3, 3), region(-9, 4, 23, 17), region(-api.MaxPlace, api.MaxPlace-13, 11, 13)} {
		l = append(l,
			n.field(r, func() float32 { return float32(n.between(-5, 5)) }),
			n.field(r, func() float32 { return float32(n.between(-9, 9)) * tiny }),
			n.field(r, func() float32 { return n.single() }),
			n.field(r, func() float32 { return n.single() * most }),
			n.field(r, func() float32 { return n.height(most) }),
			n.field(r, func() float32 { return [2]float32{0, minusZero}[n.between(0, 1)] }),
		)
	}
	return l
}

// badRegion is a region with what field.CheckRegion says of it.
type badRegion struct {
	r    api.Region
	want api.Errno
}

func badRegions() []badRegion {
	return []badRegion{
		{api.Region{}, api.ErrRange},
		{region(0, 0, 0, 1), api.ErrRange},
		{region(0, 0, 3, 513), api.ErrRange},
		{region(0, 0, math.MaxInt, math.MaxInt), api.ErrRange},
		{region(0, 0, 512, 129), api.ErrLarge},
		{region(-api.MaxPlace-1, 0, 3, 3), api.ErrPlace},
		{region(0, api.MaxPlace-2, 3, 3), api.ErrPlace},
		{region(math.MaxInt, math.MinInt, 3, 3), api.ErrPlace},
	}
}

// badField is a field with what field.Check says of it.
type badField struct {
	f    api.Field
	want api.Errno
}

func badFields() []badField {
	var l []badField
	for _, s := range badRegions() {
		l = append(l, badField{api.Field{Region: s.r, V: []float32{nan}}, s.want})
	}
	return append(l,
		badField{of(0, 0, 3, 3), api.ErrForm},
		badField{of(0, 0, 3, 3, 1, 2, 3, 4, 5, 6, 7, 8), api.ErrForm},
		badField{of(0, 0, 3, 3, 1, 2, 3, 4, 5, 6, 7, 8, 9, 10), api.ErrForm},
		badField{of(0, 0, 3, 3, beyond, 2, 3, 4, 5, 6, 7, 8, nan), api.ErrForm},
		badField{row(1, -inf), api.ErrForm},
		badField{row(1, inf), api.ErrForm},
		badField{of(0, 0, 3, 3, beyond, 2, 3, 4, 5, 6, 7, 8, 9), api.ErrRange},
		badField{row(-beyond), api.ErrRange},
	)
}

// badSingle is a single with what is said of it where it should be from low to high, both heights.
type badSingle struct {
	v    float32
	want api.Errno
}

func badSingles(low, high float32) []badSingle {
	return []badSingle{
		{nan, api.ErrForm}, {inf, api.ErrForm}, {-inf, api.ErrForm},
		{before(low), api.ErrRange}, {after(high), api.ErrRange},
		{beyond, api.ErrRange}, {-beyond, api.ErrRange}, {math.MaxFloat32, api.ErrRange}, {-math.MaxFloat32, api.ErrRange},
	}
}

// outside has integers that are not from low to high; one of them is high in its lowest bits.
func outside(low, high int) []int {
	return []int{low - 1, high + 1, -1 << 60, 1 << 60, math.MinInt, math.MaxInt, high + 1<<44}
}

// badPlaces are places that no function with places takes.
func badPlaces() []api.Point {
	var l []api.Point
	for _, far := range outside(-api.MaxPlace, api.MaxPlace) {
		l = append(l, api.Point{X: far}, api.Point{Y: far}, api.Point{X: far, Y: far}, api.Point{X: 1, Y: far})
	}
	return l
}

// maker is a function that makes a field of a field, with right other arguments; the result is smaller by less on each side.
type maker struct {
	name string
	less int
	make func(f api.Field) (api.Field, api.Errno)
}

func makers() []maker {
	return []maker{
		{"Slope", 1, shape.Slope},
		{"Curve", 1, shape.Curve},
		{"Shade", 1, func(f api.Field) (api.Field, api.Errno) { return shape.Shade(f, -300, 200, 500) }},
		{"Select", 0, func(f api.Field) (api.Field, api.Errno) { return shape.Select(f, -0.25, 0.5, 0.75) }},
		{"Terrace", 0, func(f api.Field) (api.Field, api.Errno) { return shape.Terrace(f, 0.3, 0.4) }},
		{"Stamp", 0, func(f api.Field) (api.Field, api.Errno) {
			return shape.Stamp(f, api.Brush{Kind: api.BrushBell, X: 3, Y: -2, Radius: 9, Height: 4})
		}},
		{"Faults", 0, func(f api.Field) (api.Field, api.Errno) {
			return shape.Faults(f, []api.Fault{{A: 2, B: -3, C: 5, Width: 4, Throw: 3}, {A: -1, Throw: 2}})
		}},
		{"Folds", 0, func(f api.Field) (api.Field, api.Errno) {
			return shape.Folds(f, []api.Fold{{A: 2, B: -3, Period: 25, Height: 3}, {B: -1, Period: 7, Height: -2}})
		}},
		{"Thermal", 3, func(f api.Field) (api.Field, api.Errno) {
			return shape.Thermal(f, api.Wear{Talus: 0.1, Rate: 0.1, Steps: 3})
		}},
		{"Thermal in no step", 0, func(f api.Field) (api.Field, api.Errno) { return shape.Thermal(f, api.Wear{}) }},
		{"Smooth", 2, func(f api.Field) (api.Field, api.Errno) { return shape.Smooth(f, 2) }},
		{"Smooth in no step", 0, func(f api.Field) (api.Field, api.Errno) { return shape.Smooth(f, 0) }},
		{"no Faults", 0, func(f api.Field) (api.Field, api.Errno) { return shape.Faults(f, nil) }},
	}
}
