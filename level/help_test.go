package level_test

import (
	"math"
	"slices"
	"testing"

	"tarnfell/api"
	"tarnfell/level"
)

var (
	nan       = float32(math.NaN())
	inf       = float32(math.Inf(1))
	minusZero = float32(math.Copysign(0, -1))
)

const (
	top    = float32(api.MaxHeight)
	beyond = top + 0.125 // the least single above all heights
	tiny   = float32(math.SmallestNonzeroFloat32)
	edge   = api.MaxPlace
)

func region(x, y, w, h int) api.Region { return api.Region{X: x, Y: y, W: w, H: h} }

func at(x, y int) api.Point { return api.Point{X: x, Y: y} }

func of(x, y, w, h int, v ...float32) api.Field {
	return api.Field{Region: region(x, y, w, h), V: v}
}

// row is a field of one row at the place (0, 0).
func row(v ...float32) api.Field { return of(0, 0, len(v), 1, v...) }

func flat(r api.Region, v float32) api.Field {
	return api.Field{Region: r, V: slices.Repeat([]float32{v}, r.W*r.H)}
}

func covers(r api.Region, p api.Point) bool {
	return p.X >= r.X && p.X < r.X+r.W && p.Y >= r.Y && p.Y < r.Y+r.H
}

func valueOf(f api.Field, p api.Point) float32 { return f.V[(p.Y-f.Y)*f.W+p.X-f.X] }

// cells has the places of a region, row by row.
func cells(r api.Region) []api.Point {
	var l []api.Point
	for y := r.Y; y < r.Y+r.H; y++ {
		for x := r.X; x < r.X+r.W; x++ {
			l = append(l, at(x, y))
		}
	}
	return l
}

// eachCell is the field of a region with the value of each place.
func eachCell(r api.Region, value func(p api.Point) float32) api.Field {
	f := api.Field{Region: r}
	for _, p := range cells(r) {
		f.V = append(f.V, value(p))
	}
	return f
}

func after(v float32) float32 { return math.Nextafter32(v, inf) }

func before(v float32) float32 { return math.Nextafter32(v, -inf) }

func sameBits(a, b float32) bool { return math.Float32bits(a) == math.Float32bits(b) }

func sameSingles(a, b []float32) bool { return slices.EqualFunc(a, b, sameBits) }

func sameField(a, b api.Field) bool { return a.Region == b.Region && sameSingles(a.V, b.V) }

func isSome(f api.Field) bool { return f.Region != api.Region{} || len(f.V) > 0 }

func sameBox(a, b api.Box) bool {
	return a == b && sameBits(a.Low, b.Low) && sameBits(a.High, b.High)
}

func sameStrike(a, b api.Strike) bool { return a.Cell == b.Cell && sameBits(a.T, b.T) }

func sameSpot(a, b api.Spot) bool { return sameBits(a.X, b.X) && sameBits(a.Y, b.Y) }

func sameCurve(a, b api.Curve) bool {
	return a.Closed == b.Closed && slices.EqualFunc(a.Spots, b.Spots, sameSpot)
}

func wantError(t *testing.T, what string, e, want api.Errno) {
	t.Helper()
	if e != want {
		t.Errorf("%s: error %d, want %d", what, e, want)
	}
}

// wantNothing wants an error, and no result with it.
func wantNothing(t *testing.T, what string, some bool, e, want api.Errno) {
	t.Helper()
	wantError(t, what, e, want)
	if some {
		t.Errorf("%s: a result with the error %d", what, e)
	}
}

func wantSingle(t *testing.T, what string, v float32, e api.Errno, want float32) {
	t.Helper()
	if e != api.OK || !sameBits(v, want) {
		t.Errorf("%s: got %v, error %d; want %v", what, v, e, want)
	}
}

func wantField(t *testing.T, what string, f api.Field, e api.Errno, want api.Field) {
	t.Helper()
	if e != api.OK || !sameField(f, want) {
		t.Errorf("%s: got %v, error %d; want %v", what, f, e, want)
	}
}

// wantSame wants a list without an error whose items are the same as those that are wanted.
func wantSame[T any](t *testing.T, what string, l []T, e api.Errno, want []T, same func(a, b T) bool) {
	t.Helper()
	if e != api.OK || len(l) != len(want) {
		t.Errorf("%s: got %d items, error %d; want %d", what, len(l), e, len(want))
		return
	}
	for i, v := range l {
		if !same(v, want[i]) {
			t.Errorf("%s: got %v as the item %d of %d, want %v", what, v, i, len(l), want[i])
			return
		}
	}
}

func equal[T comparable](a, b T) bool { return a == b }

func wantList[T comparable](t *testing.T, what string, l []T, e api.Errno, want ...T) {
	t.Helper()
	wantSame(t, what, l, e, want, equal)
}

func wantSingles(t *testing.T, what string, l []float32, e api.Errno, want ...float32) {
	t.Helper()
	wantSame(t, what, l, e, want, sameBits)
}

// numbers is a sequence that is the same in every run.
type numbers struct{ state uint64 }

func (n *numbers) next() uint32 {
	n.state = n.state*6364136223846793005 + 1442695040888963407
	return uint32(n.state >> 32)
}

func (n *numbers) between(least, most int) int { return least + int(n.next())%(most-least+1) }

// single is from -1 to 1.
func (n *numbers) single() float32 { return float32(int32(n.next())) / (1 << 31) }

// share is from 0 to 1.
func (n *numbers) share() float32 { return float32(n.next()) / (1 << 32) }

// height has any sign, and any magnitude up to most.
func (n *numbers) height(most float32) float32 {
	for {
		if v := math.Float32frombits(n.next()); v >= -most && v <= most {
			return v
		}
	}
}

func (n *numbers) pointIn(r api.Region) api.Point {
	return at(n.between(r.X, r.X+r.W-1), n.between(r.Y, r.Y+r.H-1))
}

func (n *numbers) field(r api.Region, value func() float32) api.Field {
	return eachCell(r, func(api.Point) float32 { return value() })
}

// fields has fields of a region: with small integers, with two heights, with what is near to nothing, with heights of one size and of all sizes, with zeros, and one that rises.
func (n *numbers) fields(r api.Region, most float32) []api.Field {
	return []api.Field{
		n.field(r, func() float32 { return float32(n.between(-5, 5)) }),
		n.field(r, func() float32 { return float32(n.between(0, 1)) }),
		n.field(r, func() float32 { return float32(n.between(-9, 9)) * tiny }),
		n.field(r, n.single),
		n.field(r, func() float32 { return n.single() * most }),
		n.field(r, func() float32 { return n.height(most) }),
		n.field(r, func() float32 { return [2]float32{0, minusZero}[n.between(0, 1)] }),
		eachCell(r, func(p api.Point) float32 { return float32(p.X-r.X)*0.3 + float32(p.Y-r.Y)*0.7 + n.single() }),
	}
}

// regions are of several forms: wide, high, of one row, column and cell, on both sides of 0, and at the ends of the plane.
func regions() []api.Region {
	return []api.Region{
		region(0, 0, 9, 7), region(-5, -3, 12, 8), region(3, -6, 1, 10), region(-20, 7, 16, 1), region(0, 0, 1, 1), region(-1, -1, 2, 2),
		region(-edge, edge-6, 5, 6), region(edge-8, -edge, 8, 8), region(-7, 2, 17, 13),
	}
}

// badRegion is a region with what field.CheckRegion says of it.
type badRegion struct {
	r    api.Region
	want api.Errno
}

func badRegions() []badRegion {
	return []badRegion{
		{api.Region{}, api.ErrRange}, {region(0, 0, 0, 1), api.ErrRange}, {region(0, 0, 3, 513), api.ErrRange},
		{region(0, 0, math.MaxInt, math.MaxInt), api.ErrRange}, {region(0, 0, 512, 129), api.ErrLarge},
		{region(-edge-1, 0, 3, 3), api.ErrPlace}, {region(0, edge-2, 3, 3), api.ErrPlace},
		{region(math.MaxInt, math.MinInt, 3, 3), api.ErrPlace},
	}
}

// badField is a field with what field.Check says of it.
type badField struct {
	f    api.Field
	want api.Errno
}

func badFields() []badField {
	var l []badField
	for _, s := range badRegions() {
		l = append(l, badField{api.Field{Region: s.r, V: []float32{nan}}, s.want})
	}
	return append(l,
		badField{of(0, 0, 3, 3), api.ErrForm},
		badField{of(0, 0, 3, 3, 1, 2, 3, 4, 5, 6, 7, 8), api.ErrForm},
		badField{of(0, 0, 3, 3, 1, 2, 3, 4, 5, 6, 7, 8, 9, 10), api.ErrForm},
		badField{of(0, 0, 3, 3, beyond, 2, 3, 4, 5, 6, 7, 8, nan), api.ErrForm},
		badField{row(1, -inf), api.ErrForm},
		badField{row(1, inf), api.ErrForm},
		badField{of(0, 0, 3, 3, beyond, 2, 3, 4, 5, 6, 7, 8, 9), api.ErrRange},
		badField{of(1, 1, 1, 1, -beyond), api.ErrRange},
	)
}

// badSingle is a single with what is said of it where it should be from low to high, both heights.
type badSingle struct {
	v    float32
	want api.Errno
}

func badSingles(low, high float32) []badSingle {
	return []badSingle{
		{nan, api.ErrForm}, {inf, api.ErrForm}, {-inf, api.ErrForm},
		{before(low), api.ErrRange}, {after(high), api.ErrRange},
		{beyond, api.ErrRange}, {-beyond, api.ErrRange}, {math.MaxFloat32, api.ErrRange}, {-math.MaxFloat32, api.ErrRange},
	}
}

// outside has integers that are not from low to high; one of them is high in its lowest bits.
func outside(low, high int) []int {
	return []int{low - 1, high + 1, -1 << 60, 1 << 60, math.MinInt, math.MaxInt, high + 1<<44}
}

// placesOutside are places that are not in a region.
func placesOutside(r api.Region) []api.Point {
	var l []api.Point
	for _, x := range outside(r.X, r.X+r.W-1) {
		l = append(l, at(x, r.Y))
	}
	for _, y := range outside(r.Y, r.Y+r.H-1) {
		l = append(l, at(r.X, y), at(math.MaxInt, y))
	}
	return l
}

// looker is a function with a field, with other arguments that are right, or wrong; it tells whether it has a result.
type looker struct {
	name string
	look func(f api.Field, wrong bool) (some bool, e api.Errno)
}

// pick gives a right value, or a wrong one.
func pick[T any](wrong bool, right, other T) T {
	if wrong {
		return other
	}
	return right
}

func lookers() []looker {
	return []looker{
		{"Down", func(f api.Field, _ bool) (bool, api.Errno) { g, e := level.Down(f); return isSome(g), e }},
		{"Up", func(f api.Field, wrong bool) (bool, api.Errno) {
			g, e := level.Up(f, pick(wrong, region(0, 0, 1, 1), api.Region{}))
			return isSome(g), e
		}},
		{"Pyramid", func(f api.Field, wrong bool) (bool, api.Errno) {
			l, e := level.Pyramid(f, pick(wrong, 1, 0))
			return len(l) > 0, e
		}},
		{"Losses", func(f api.Field, wrong bool) (bool, api.Errno) {
			l, e := level.Losses(f, pick(wrong, 1, 0))
			return len(l) > 0, e
		}},
		{"CheckGrid", func(f api.Field, _ bool) (bool, api.Errno) { k, e := level.CheckGrid(f); return k != 0, e }},
		{"Errors", func(f api.Field, _ bool) (bool, api.Errno) { l, e := level.Errors(f); return len(l) > 0, e }},
		{"Mesh", func(f api.Field, wrong bool) (bool, api.Errno) {
			l, e := level.Mesh(f, pick(wrong, 1, nan))
			return len(l) > 0, e
		}},
		{"MeshAt", func(f api.Field, wrong bool) (bool, api.Errno) {
			v, e := level.MeshAt(f, pick(wrong, 1, nan), pick(wrong, 1, -1), 1)
			return v != 0, e
		}},
		{"Patches", func(f api.Field, wrong bool) (bool, api.Errno) {
			l, e := level.Patches(f, pick(wrong, 8, 7), api.Eye{Scale: pick(wrong, 1, nan)})
			return len(l) > 0, e
		}},
		{"Bounds", func(f api.Field, _ bool) (bool, api.Errno) { l, e := level.Bounds(f); return len(l) > 0, e }},
		{"Hit", func(f api.Field, wrong bool) (bool, api.Errno) {
			s, is, e := level.Hit(f, api.Ray{DX: pick(wrong, 1, nan)})
			return is || s != api.Strike{}, e
		}},
		{"HitBounds", func(f api.Field, wrong bool) (bool, api.Errno) {
			s, is, n, e := level.HitBounds(f, nil, api.Ray{DX: pick(wrong, 1, nan)})
			return is || n != 0 || s != api.Strike{}, e
		}},
		{"Hits", func(f api.Field, wrong bool) (bool, api.Errno) {
			l, is, e := level.Hits(f, []api.Ray{{DX: pick(wrong, 1, nan)}})
			return len(l) > 0 || len(is) > 0, e
		}},
		{"Sees", func(f api.Field, wrong bool) (bool, api.Errno) {
			return level.Sees(f, at(0, 0), at(0, 0), pick(wrong, 1, nan))
		}},
		{"View", func(f api.Field, wrong bool) (bool, api.Errno) {
			l, e := level.View(f, at(0, 0), pick(wrong, 1, nan), pick(wrong, 1, -1))
			return len(l) > 0, e
		}},
		{"Horizon", func(f api.Field, wrong bool) (bool, api.Errno) {
			v, is, e := level.Horizon(f, at(0, 0), pick(wrong, 1, nan), pick(wrong, 1, -1))
			return is || v != 0, e
		}},
		{"Contour", func(f api.Field, wrong bool) (bool, api.Errno) {
			l, e := level.Contour(f, pick(wrong, 1, nan))
			return len(l) > 0, e
		}},
		{"Profile", func(f api.Field, wrong bool) (bool, api.Errno) {
			l, e := level.Profile(f, at(0, 0), pick(wrong, at(0, 0), at(1<<40, 0)))
			return len(l) > 0, e
		}},
	}
}
