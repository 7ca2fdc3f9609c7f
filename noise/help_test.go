package noise_test

import (
	"math"
	"testing"

	"tarnfell/api"
)

var (
	nan       = float32(math.NaN())
	inf       = float32(math.Inf(1))
	minusZero = float32(math.Copysign(0, -1))
)

const tiny = float32(math.SmallestNonzeroFloat32)

func region(x, y, w, h int) api.Region { return api.Region{X: x, Y: y, W: w, H: h} }

func after(v float32) float32 { return math.Nextafter32(v, inf) }

func before(v float32) float32 { return math.Nextafter32(v, -inf) }

func sameBits(a, b float32) bool { return math.Float32bits(a) == math.Float32bits(b) }

func wantSingle(t *testing.T, what string, v float32, e api.Errno, want float32) {
	t.Helper()
	if e != api.OK || !sameBits(v, want) {
		t.Errorf("%s: got %v, error %d; want %v", what, v, e, want)
	}
}

func wantNoSingle(t *testing.T, what string, v float32, e, want api.Errno) {
	t.Helper()
	if e != want || !sameBits(v, 0) {
		t.Errorf("%s: got %v, error %d; want error %d", what, v, e, want)
	}
}

func wantNoField(t *testing.T, what string, f api.Field, e, want api.Errno) {
	t.Helper()
	if e != want || f.Region != (api.Region{}) || len(f.V) != 0 {
		t.Errorf("%s: got %v, error %d; want error %d", what, f, e, want)
	}
}

// wantCells wants a field with the region r, and with the value of each of its places.
func wantCells(t *testing.T, what string, f api.Field, e api.Errno, r api.Region, value func(x, y int) float32) {
	t.Helper()
	if e != api.OK || f.Region != r || len(f.V) != r.W*r.H {
		t.Fatalf("%s: got %d values of %v, error %d; want those of %v", what, len(f.V), f.Region, e, r)
	}
	for n, v := range f.V {
		x, y := r.X+n%r.W, r.Y+n/r.W
		if want := value(x, y); !sameBits(v, want) {
			t.Fatalf("%s: got %v at (%d, %d), want %v", what, v, x, y, want)
		}
	}
}

func valueAt(f api.Field, x, y int) float32 { return f.V[(y-f.Y)*f.W+x-f.X] }

// numbers is a sequence that is the same in every run.
type numbers struct{ state uint64 }

func (n *numbers) next() uint32 {
	n.state = n.state*6364136223846793005 + 1442695040888963407
	return uint32(n.state >> 32)
}

func (n *numbers) between(least, most int) int { return least + int(n.next())%(most-least+1) }

func (n *numbers) place() int { return n.between(-api.MaxPlace, api.MaxPlace) }

// share is from 0 to 1.
func (n *numbers) share() float32 { return float32(n.next()) / (1 << 32) }

func (n *numbers) field(r api.Region, most float32) api.Field {
	v := make([]float32, r.W*r.H)
	for i := range v {
		v[i] = (n.share() - 0.5) * 2 * most
	}
	return api.Field{Region: r, V: v}
}

// badRegion is a region with what field.CheckRegion says of it.
type badRegion struct {
	r    api.Region
	want api.Errno
}

func badRegions() []badRegion {
	return []badRegion{
		{region(0, 0, 0, 1), api.ErrRange},
		{region(0, 0, 1, 513), api.ErrRange},
		{region(0, 0, math.MaxInt, math.MaxInt), api.ErrRange},
		{region(0, 0, 512, 129), api.ErrLarge},
		{region(-api.MaxPlace-1, 0, 1, 1), api.ErrPlace},
		{region(0, api.MaxPlace, 1, 1), api.ErrPlace},
		{region(math.MaxInt, math.MinInt, 1, 1), api.ErrPlace},
	}
}

// badSingle is a single with what is said of it where it should be from low to high, both above -1 and below 2^20.
type badSingle struct {
	v    float32
	want api.Errno
}

func badSingles(low, high float32) []badSingle {
	return []badSingle{
		{nan, api.ErrForm}, {inf, api.ErrForm}, {-inf, api.ErrForm},
		{before(low), api.ErrRange}, {after(high), api.ErrRange}, {-1, api.ErrRange},
		{api.MaxHeight + 1, api.ErrRange}, {math.MaxFloat32, api.ErrRange}, {-math.MaxFloat32, api.ErrRange},
	}
}

// badPlaces are places that no function with places takes.
func badPlaces() []api.Point {
	var l []api.Point
	for _, far := range []int{api.MaxPlace + 1, -api.MaxPlace - 1, 1 << 32, -1 << 32, math.MaxInt, math.MinInt} {
		l = append(l, api.Point{X: far}, api.Point{Y: far}, api.Point{X: far, Y: far})
	}
	return l
}
