package water_test

import (
	"math"
	"slices"
	"testing"

	"tarnfell/api"
	"tarnfell/water"
)

var (
	nan       = float32(math.NaN())
	inf       = float32(math.Inf(1))
	minusZero = float32(math.Copysign(0, -1))
)

const (
	top    = float32(api.MaxHeight)
	beyond = top + 0.125 // the least single above all heights
	tiny   = float32(math.SmallestNonzeroFloat32)
	root2  = float32(1.4142135)
)

func region(x, y, w, h int) api.Region { return api.Region{X: x, Y: y, W: w, H: h} }

func at(x, y int) api.Point { return api.Point{X: x, Y: y} }

func of(x, y, w, h int, v ...float32) api.Field {
	return api.Field{Region: region(x, y, w, h), V: v}
}

// row is a field of one row at the place (0, 0).
func row(v ...float32) api.Field { return of(0, 0, len(v), 1, v...) }

// bowl is a field of 3 by 3 cells with one height in the middle.
func bowl(rim, middle float32) api.Field {
	return of(0, 0, 3, 3, rim, rim, rim, rim, middle, rim, rim, rim, rim)
}

func after(v float32) float32 { return math.Nextafter32(v, inf) }

func before(v float32) float32 { return math.Nextafter32(v, -inf) }

func sameBits(a, b float32) bool { return math.Float32bits(a) == math.Float32bits(b) }

func wantError(t *testing.T, what string, e, want api.Errno) {
	t.Helper()
	if e != want {
		t.Errorf("%s: error %d, want %d", what, e, want)
	}
}

func wantSingle(t *testing.T, what string, v float32, e api.Errno, want float32) {
	t.Helper()
	if e != api.OK || !sameBits(v, want) {
		t.Errorf("%s: got %v, error %d; want %v", what, v, e, want)
	}
}

func wantNoSingle(t *testing.T, what string, v float32, e, want api.Errno) {
	t.Helper()
	if e != want || !sameBits(v, 0) {
		t.Errorf("%s: got %v, error %d; want error %d", what, v, e, want)
	}
}

func wantField(t *testing.T, what string, f api.Field, e api.Errno, want api.Field) {
	t.Helper()
	wantLike(t, what, f, e, want, sameBits)
}

// wantLevels takes either one of two zeros (P70).
func wantLevels(t *testing.T, what string, f api.Field, e api.Errno, want api.Field) {
	t.Helper()
	wantLike(t, what, f, e, want, func(a, b float32) bool { return a == b })
}

func wantLike(t *testing.T, what string, f api.Field, e api.Errno, want api.Field, like func(a, b float32) bool) {
	t.Helper()
	if e != api.OK || f.Region != want.Region || len(f.V) != len(want.V) {
		t.Errorf("%s: got %d values of %v, error %d; want %d of %v", what, len(f.V), f.Region, e, len(want.V), want.Region)
		return
	}
	for i, v := range f.V {
		if !like(v, want.V[i]) {
			t.Errorf("%s: got %v at the cell %d of %v, want %v", what, v, i, f.Region, want.V[i])
			return
		}
	}
}

func wantNoField(t *testing.T, what string, f api.Field, e, want api.Errno) {
	t.Helper()
	if e != want || f.Region != (api.Region{}) || len(f.V) != 0 {
		t.Errorf("%s: got %v, error %d; want error %d", what, f, e, want)
	}
}

func wantList[T comparable](t *testing.T, what string, l []T, e api.Errno, want []T) {
	t.Helper()
	if e != api.OK || !slices.Equal(l, want) {
		t.Errorf("%s: got %v, error %d; want %v", what, l, e, want)
	}
}

func wantNoList[T any](t *testing.T, what string, l []T, e, want api.Errno) {
	t.Helper()
	if e != want || len(l) != 0 {
		t.Errorf("%s: got %v, error %d; want error %d", what, l, e, want)
	}
}

func sameRivers(a, b []api.River) bool {
	return slices.EqualFunc(a, b, func(a, b api.River) bool {
		return a.Amount == b.Amount && a.Order == b.Order && a.Into == b.Into && slices.Equal(a.Points, b.Points)
	})
}

// numbers is a sequence that is the same in every run.
type numbers struct{ state uint64 }

func (n *numbers) next() uint32 {
	n.state = n.state*6364136223846793005 + 1442695040888963407
	return uint32(n.state >> 32)
}

func (n *numbers) between(least, most int) int {
	return least + int((uint64(n.next())<<32|uint64(n.next()))%uint64(most-least+1))
}

// single is from -1 to 1.
func (n *numbers) single() float32 { return float32(int32(n.next())) / (1 << 31) }

// share is from 0 to 1.
func (n *numbers) share() float32 { return float32(n.next()) / (1 << 32) }

// height has any sign, and any magnitude up to most.
func (n *numbers) height(most float32) float32 {
	for {
		if v := math.Float32frombits(n.next()); v >= -most && v <= most {
			return v
		}
	}
}

func (n *numbers) field(r api.Region, value func() float32) api.Field {
	f := api.Field{Region: r}
	for range r.W * r.H {
		f.V = append(f.V, value())
	}
	return f
}

func (n *numbers) list(many int, value func() int) []int {
	l := make([]int, many)
	for i := range l {
		l[i] = value()
	}
	return l
}

func regions() []api.Region {
	return []api.Region{region(0, 0, 1, 1), region(5, -7, 6, 1), region(-1, 0, 1, 7), region(3, 3, 2, 5), region(-4, 0, 3, 3), region(-9, 4, 9, 14), region(-api.MaxPlace, api.MaxPlace-13, 16, 13)}
}

// fields has fields of several forms: flat ones, with small integers, with what is near to nothing, with heights of one size and of all sizes, with plains and pits.
func (n *numbers) fields(most float32) []api.Field {
	var l []api.Field
	for _, r := range regions() {
		l = append(l,
			n.field(r, func() float32 { return float32(n.between(0, 2)) }),
			n.field(r, func() float32 { return float32(n.between(-5, 5)) }),
			n.field(r, func() float32 { return float32(n.between(-9, 9)) * tiny }),
			n.field(r, func() float32 { return n.single() }),
			n.field(r, func() float32 { return n.single() * most }),
			n.field(r, func() float32 { return n.height(most) }),
			n.field(r, func() float32 { return [2]float32{0, minusZero}[n.between(0, 1)] }),
			n.field(r, func() float32 { return most }),
			n.plains(r),
		)
	}
	return l
}

// plains is a field with a few round pits and hills with flat bottoms and tops.
func (n *numbers) plains(r api.Region) api.Field {
	f := n.field(r, func() float32 { return 4 })
	for range 1 + r.W*r.H/30 {
		x, y, far, h := n.between(0, r.W-1), n.between(0, r.H-1), n.between(1, 12), float32(n.between(0, 9))
		for i := range f.V {
			if dx, dy := i%r.W-x, i/r.W-y; dx*dx+dy*dy <= far {
				f.V[i] = h
			}
		}
	}
	return f
}

// downhill has directions that come to an end: each leads to a cell that is earlier in an order by chance, or nowhere.
func (n *numbers) downhill(r api.Region) []int {
	ranks := n.list(r.W*r.H, func() int { return n.between(0, 1<<40) })
	dirs := make([]int, len(ranks))
	for i := range dirs {
		dirs[i] = -1
		for range n.between(0, 8) {
			d := n.between(0, 7)
			if k := neighbour(r, i, d); k >= 0 && ranks[k] < ranks[i] {
				dirs[i] = d
			}
		}
	}
	return dirs
}

// badRegion is a region with what field.CheckRegion says of it.
type badRegion struct {
	r    api.Region
	want api.Errno
}

func badRegions() []badRegion {
	return []badRegion{
		{api.Region{}, api.ErrRange},
		{region(0, 0, 0, 1), api.ErrRange},
		{region(0, 0, 3, 513), api.ErrRange},
		{region(0, 0, math.MaxInt, math.MaxInt), api.ErrRange},
		{region(0, 0, 512, 129), api.ErrLarge},
		{region(-api.MaxPlace-1, 0, 3, 3), api.ErrPlace},
		{region(0, api.MaxPlace-2, 3, 3), api.ErrPlace},
		{region(math.MaxInt, math.MinInt, 3, 3), api.ErrPlace},
	}
}

// badField is a field with what field.Check says of it.
type badField struct {
	f    api.Field
	want api.Errno
}

func badFields() []badField {
	var l []badField
	for _, s := range badRegions() {
		l = append(l, badField{api.Field{Region: s.r, V: []float32{nan}}, s.want})
	}
	return append(l,
		badField{of(0, 0, 3, 3), api.ErrForm},
		badField{of(0, 0, 3, 3, 1, 2, 3, 4, 5, 6, 7, 8), api.ErrForm},
		badField{of(0, 0, 3, 3, 1, 2, 3, 4, 5, 6, 7, 8, 9, 10), api.ErrForm},
		badField{of(0, 0, 3, 3, beyond, 2, 3, 4, 5, 6, 7, 8, nan), api.ErrForm},
		badField{row(1, -inf), api.ErrForm},
		badField{row(1, inf), api.ErrForm},
		badField{of(0, 0, 3, 3, beyond, 2, 3, 4, 5, 6, 7, 8, 9), api.ErrRange},
		badField{row(-beyond), api.ErrRange},
	)
}

// badSingle is a single with what is said of it where it should be from low to high, both heights.
type badSingle struct {
	v    float32
	want api.Errno
}

func badSingles(low, high float32) []badSingle {
	return []badSingle{
		{nan, api.ErrForm}, {inf, api.ErrForm}, {-inf, api.ErrForm},
		{before(low), api.ErrRange}, {after(high), api.ErrRange},
		{beyond, api.ErrRange}, {-beyond, api.ErrRange}, {math.MaxFloat32, api.ErrRange}, {-math.MaxFloat32, api.ErrRange},
	}
}

// outside has integers that are not from low to high; one of them is high in its lowest bits.
func outside(low, high int) []int {
	return []int{low - 1, high + 1, -1 << 60, 1 << 60, math.MinInt, math.MaxInt, high + 1<<44}
}

// badDirs are directions of a region with what CheckDirs says of them.
type badDirs struct {
	r    api.Region
	dirs []int
	want api.Errno
}

func allBadDirs() []badDirs {
	two, three := region(4, 5, 2, 1), region(-1, -1, 3, 3)
	var l []badDirs
	for _, s := range badRegions() {
		l = append(l, badDirs{s.r, nil, s.want}, badDirs{s.r, []int{8}, s.want})
	}
	for _, n := range outside(-1, 7) {
		l = append(l, badDirs{two, []int{n, -1}, api.ErrRange}, badDirs{two, []int{-1, n}, api.ErrRange})
	}
	for _, d := range []int{1, 2, 3, 4, 5, 6, 7} {
		l = append(l, badDirs{two, []int{d, -1}, api.ErrPlace})
	}
	for _, d := range []int{0, 1, 2, 3, 5, 6, 7} {
		l = append(l, badDirs{two, []int{-1, d}, api.ErrPlace})
	}
	return append(l,
		badDirs{two, nil, api.ErrForm}, badDirs{two, []int{8}, api.ErrForm}, badDirs{two, []int{0, 4, -1}, api.ErrForm},
		// The first bad cell decides, and loops come last.
		badDirs{two, []int{4, 8}, api.ErrPlace}, badDirs{two, []int{8, 0}, api.ErrRange}, badDirs{three, []int{0, 4, -1, -1, -1, -1, -1, -1, 8}, api.ErrRange}, badDirs{three, []int{0, 4, -1, -1, -1, -1, -1, -1, 0}, api.ErrPlace},
		badDirs{two, []int{0, 4}, api.ErrLoop},
		badDirs{three, []int{0, 0, 2, 6, -1, 2, 6, 4, 4}, api.ErrLoop},
		badDirs{three, []int{-1, -1, -1, -1, 0, 4, -1, 6, -1}, api.ErrLoop},
		badDirs{three, []int{-1, 3, -1, 1, -1, 5, -1, 7, -1}, api.ErrLoop},
	)
}

// maker is a function that makes a field of a field, with right other arguments.
type maker struct {
	name string
	make func(f api.Field) (api.Field, api.Errno)
}

func makers() []maker {
	return []maker{
		{"Filled", func(f api.Field) (api.Field, api.Errno) { return water.Filled(f, 0) }},
		{"Filled with a slope", func(f api.Field) (api.Field, api.Errno) { return water.Filled(f, 0.25) }},
		{"Carve", func(f api.Field) (api.Field, api.Errno) {
			return water.Carve(f, api.Carving{Rate: 0.5, Most: 3, Steps: 3})
		}},
		{"Carve in no step", func(f api.Field) (api.Field, api.Errno) { return water.Carve(f, api.Carving{}) }},
		{"Breach", func(f api.Field) (api.Field, api.Errno) { return water.Breach(f, 0.25) }},
		{"Bed", func(f api.Field) (api.Field, api.Errno) {
			return water.Bed(f, []api.River{{Points: []api.Point{at(f.X, f.Y)}, Order: 1, Into: -1}}, ones(f), 0.5)
		}},
		{"Bed of no river", func(f api.Field) (api.Field, api.Errno) { return water.Bed(f, nil, ones(f), 1) }},
		{"Wet", func(f api.Field) (api.Field, api.Errno) { return water.Wet(f, ones(f)) }},
		{"Snow", func(f api.Field) (api.Field, api.Errno) {
			return water.Snow(f, api.Snow{Line: -1, Rate: 0.5, Most: 2, Hold: 3})
		}},
		{"Melt", func(f api.Field) (api.Field, api.Errno) {
			g, _, e := water.Melt(f, api.Field{Region: f.Region, V: make([]float32, len(f.V))}, 1)
			return g, e
		}},
	}
}

// ones is a list of numbers that is as long as it should be, if there is such a length.
func ones(f api.Field) []int {
	if f.W < 1 || f.W > api.MaxSide || f.H < 1 || f.H > api.MaxSide {
		return nil
	}
	return slices.Repeat([]int{1}, f.W*f.H)
}

// lister is a function that makes a list of a field, with right other arguments.
type lister struct {
	name string
	make func(f api.Field) (many int, e api.Errno)
}

func listers() []lister {
	return []lister{
		{"Steep", func(f api.Field) (int, api.Errno) { l, e := water.Steep(f); return len(l), e }},
		{"Drain", func(f api.Field) (int, api.Errno) { l, e := water.Drain(f); return len(l), e }},
		{"Lakes", func(f api.Field) (int, api.Errno) { l, e := water.Lakes(f, 0); return len(l), e }},
		{"Shore", func(f api.Field) (int, api.Errno) { l, e := water.Shore(f, 0); return len(l), e }},
	}
}
