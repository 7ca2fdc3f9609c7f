package road_test

import (
	"math"
	"slices"
	"testing"

	"tarnfell/api"
	"tarnfell/road"
)

var (
	nan       = float32(math.NaN())
	inf       = float32(math.Inf(1))
	minusZero = float32(math.Copysign(0, -1))
)

const (
	top    = float32(api.MaxHeight)
	beyond = top + 0.125 // the least single above all heights
	tiny   = float32(math.SmallestNonzeroFloat32)
	root2  = float32(1.4142135)
)

func region(x, y, w, h int) api.Region { return api.Region{X: x, Y: y, W: w, H: h} }

func at(x, y int) api.Point { return api.Point{X: x, Y: y} }

// places has a place for each two numbers.
func places(l ...int) []api.Point {
	var way []api.Point
	for pair := range slices.Chunk(l, 2) {
		way = append(way, at(pair[0], pair[1]))
	}
	return way
}

func of(x, y, w, h int, v ...float32) api.Field {
	return api.Field{Region: region(x, y, w, h), V: v}
}

// row is a field of one row at the place (0, 0).
func row(v ...float32) api.Field { return of(0, 0, len(v), 1, v...) }

func flat(r api.Region, v float32) api.Field {
	return api.Field{Region: r, V: slices.Repeat([]float32{v}, r.W*r.H)}
}

// plain has the rules by which roads cost their length alone.
func plain() api.RoadRules { return api.RoadRules{Bridge: 1} }

func after(v float32) float32 { return math.Nextafter32(v, inf) }

func before(v float32) float32 { return math.Nextafter32(v, -inf) }

func sameBits(a, b float32) bool { return math.Float32bits(a) == math.Float32bits(b) }

func wantError(t *testing.T, what string, e, want api.Errno) {
	t.Helper()
	if e != want {
		t.Errorf("%s: error %d, want %d", what, e, want)
	}
}

func wantSingle(t *testing.T, what string, v float32, e api.Errno, want float32) {
	t.Helper()
	if e != api.OK || !sameBits(v, want) {
		t.Errorf("%s: got %v, error %d; want %v", what, v, e, want)
	}
}

func wantNoSingle(t *testing.T, what string, v float32, e, want api.Errno) {
	t.Helper()
	if e != want || !sameBits(v, 0) {
		t.Errorf("%s: got %v, error %d; want error %d", what, v, e, want)
	}
}

func wantSingles(t *testing.T, what string, l []float32, e api.Errno, want ...float32) {
	t.Helper()
	if e != api.OK || !slices.EqualFunc(l, want, sameBits) {
		t.Errorf("%s: got %v, error %d; want %v", what, l, e, want)
	}
}

func wantField(t *testing.T, what string, f api.Field, e api.Errno, want api.Field) {
	t.Helper()
	if e != api.OK || f.Region != want.Region || !slices.EqualFunc(f.V, want.V, sameBits) {
		t.Errorf("%s: got %v, error %d; want %v", what, f, e, want)
	}
}

func wantNoField(t *testing.T, what string, f api.Field, e, want api.Errno) {
	t.Helper()
	if e != want || f.Region != (api.Region{}) || len(f.V) != 0 {
		t.Errorf("%s: got %v, error %d; want error %d", what, f, e, want)
	}
}

func wantList[T comparable](t *testing.T, what string, l []T, e api.Errno, want ...T) {
	t.Helper()
	if e != api.OK || !slices.Equal(l, want) {
		t.Errorf("%s: got %v, error %d; want %v", what, l, e, want)
	}
}

func wantNoList[T any](t *testing.T, what string, l []T, e, want api.Errno) {
	t.Helper()
	if e != want || len(l) != 0 {
		t.Errorf("%s: got %v, error %d; want error %d", what, l, e, want)
	}
}

// wantLeast is for functions that tell of each cell or site what is least, and whether there is one.
func wantLeast(t *testing.T, what string, l []float32, is []bool, e api.Errno, want []float32, wanted []bool) {
	t.Helper()
	wantSingles(t, what, l, e, want...)
	wantList(t, what, is, e, wanted...)
}

func wantNoLeast(t *testing.T, what string, l []float32, is []bool, e, want api.Errno) {
	t.Helper()
	wantNoList(t, what, l, e, want)
	wantNoList(t, what, is, e, want)
}

func sameRoads(a, b []api.Road) bool {
	return slices.EqualFunc(a, b, func(a, b api.Road) bool {
		return a.From == b.From && a.To == b.To && sameBits(a.Price, b.Price) && slices.Equal(a.Way, b.Way)
	})
}

func wantRoads(t *testing.T, what string, l []api.Road, e api.Errno, want ...api.Road) {
	t.Helper()
	if e != api.OK || !sameRoads(l, want) {
		t.Errorf("%s: got %v, error %d; want %v", what, l, e, want)
	}
}

// numbers is a sequence that is the same in every run.
type numbers struct{ state uint64 }

func (n *numbers) next() uint32 {
	n.state = n.state*6364136223846793005 + 1442695040888963407
	return uint32(n.state >> 32)
}

func (n *numbers) between(least, most int) int {
	return least + int((uint64(n.next())<<32|uint64(n.next()))%uint64(most-least+1))
}

// single is from -1 to 1.
func (n *numbers) single() float32 { return float32(int32(n.next())) / (1 << 31) }

// share is from 0 to 1.
func (n *numbers) share() float32 { return float32(n.next()) / (1 << 32) }

// height has any sign, and any magnitude up to most.
func (n *numbers) height(most float32) float32 {
	for {
		if v := math.Float32frombits(n.next()); v >= -most && v <= most {
			return v
		}
	}
}

func (n *numbers) field(r api.Region, value func() float32) api.Field {
	f := api.Field{Region: r}
	for range r.W * r.H {
		f.V = append(f.V, value())
	}
	return f
}

func (n *numbers) in(r api.Region) api.Point {
	return at(n.between(r.X, r.X+r.W-1), n.between(r.Y, r.Y+r.H-1))
}

// sites are different places of a region, up to so many.
func (n *numbers) sites(r api.Region, many int) []api.Point {
	var l []api.Point
	for range many {
		if p := n.in(r); !slices.Contains(l, p) {
			l = append(l, p)
		}
	}
	return l
}

// way goes over a region by chance, with bridges of up to so many steps; it may cross itself, and go back.
func (n *numbers) way(r api.Region, many, span int) []api.Point {
	p := n.in(r)
	way := []api.Point{p}
	for range many {
		d, k := n.between(0, 7), 1
		if n.between(0, 3) == 0 {
			k = n.between(1, span)
		}
		to := ahead(p, d, k)
		if covers(r, to) {
			p = to
			way = append(way, p)
		}
	}
	return way
}

func regions() []api.Region {
	return []api.Region{region(0, 0, 1, 1), region(5, -7, 6, 1), region(-1, 0, 1, 15), region(3, 3, 2, 5), region(-4, 0, 3, 3), region(-9, 4, 7, 8), region(-api.MaxPlace, api.MaxPlace-6, 14, 6)}
}

// fields has fields of several forms: flat ones, with small integers, with what is near to nothing, with heights of one size and of all sizes, and with narrow valleys.
func (n *numbers) fields(most float32) []api.Field {
	var l []api.Field
	for _, r := range regions() {
		l = append(l,
			flat(r, most),
			n.field(r, func() float32 { return float32(n.between(0, 2)) }),
			n.field(r, func() float32 { return float32(n.between(-9, 9)) * tiny }),
			n.field(r, func() float32 { return n.single() }),
			n.field(r, func() float32 { return n.single() * most }),
			n.field(r, func() float32 { return n.height(most) }),
			n.field(r, func() float32 { return [2]float32{0, minusZero}[n.between(0, 1)] }),
			n.field(r, func() float32 { return [4]float32{-5, -4, 1, 1.5}[n.between(0, 3)] }),
		)
	}
	return l
}

// rules has rules of several forms, for a region: with steep grades and gentle ones, with and without bridges, where many ways cost the same, and where costs are as great as they can be.
func (n *numbers) rules(r api.Region) []api.RoadRules {
	costly := n.field(r, func() float32 { return n.share() * 3 })
	far := n.field(r, func() float32 { return [3]float32{0, 1, 1024}[n.between(0, 2)] })
	return []api.RoadRules{
		plain(),
		{Grade: 0.75, Weight: 2.5, Bridge: 1.25, Dear: 0.5, Span: 4},
		{Grade: 2, Weight: 3, Bridge: 5, Dear: 1, Span: 12, Costly: []api.Field{costly}},
		{Grade: 1024, Bridge: 1, Span: 12},
		{Grade: 1024, Bridge: 1, Span: 2, Costly: []api.Field{far}},
		{Grade: 1024, Weight: 1024, Bridge: 1024, Dear: 1024, Span: 12, Costly: []api.Field{far}},
		{Grade: 1024, Weight: 1024, Bridge: 1},
	}
}

// badField is a field with what field.Check says of it.
type badField struct {
	f    api.Field
	want api.Errno
}

func badFields() []badField {
	var l []badField
	for _, s := range []struct {
		r    api.Region
		want api.Errno
	}{
		{api.Region{}, api.ErrRange}, {region(0, 0, 0, 1), api.ErrRange}, {region(0, 0, 3, 513), api.ErrRange},
		{region(0, 0, math.MaxInt, math.MaxInt), api.ErrRange}, {region(0, 0, 512, 129), api.ErrLarge},
		{region(-api.MaxPlace-1, 0, 3, 3), api.ErrPlace}, {region(0, api.MaxPlace-2, 3, 3), api.ErrPlace},
		{region(math.MaxInt, math.MinInt, 3, 3), api.ErrPlace},
	} {
		l = append(l, badField{api.Field{Region: s.r, V: []float32{nan}}, s.want})
	}
	return append(l,
		badField{of(0, 0, 3, 3), api.ErrForm},
		badField{of(0, 0, 3, 3, 1, 2, 3, 4, 5, 6, 7, 8), api.ErrForm},
		badField{of(0, 0, 3, 3, 1, 2, 3, 4, 5, 6, 7, 8, 9, 10), api.ErrForm},
		badField{of(0, 0, 3, 3, beyond, 2, 3, 4, 5, 6, 7, 8, nan), api.ErrForm},
		badField{row(1, -inf), api.ErrForm},
		badField{row(1, inf), api.ErrForm},
		badField{of(0, 0, 3, 3, beyond, 2, 3, 4, 5, 6, 7, 8, 9), api.ErrRange},
		badField{row(-beyond), api.ErrRange},
	)
}

// badSingle is a single with what is said of it where it should be from low to high, both heights.
type badSingle struct {
	v    float32
	want api.Errno
}

func badSingles(low, high float32) []badSingle {
	return []badSingle{
		{nan, api.ErrForm}, {inf, api.ErrForm}, {-inf, api.ErrForm},
		{before(low), api.ErrRange}, {after(high), api.ErrRange},
		{beyond, api.ErrRange}, {-beyond, api.ErrRange}, {math.MaxFloat32, api.ErrRange}, {-math.MaxFloat32, api.ErrRange},
	}
}

// outside has integers that are not from low to high; one of them is high in its lowest bits.
func outside(low, high int) []int {
	return []int{low - 1, high + 1, -1 << 60, 1 << 60, math.MinInt, math.MaxInt, high + 1<<44}
}

// badRules are rules with what CheckRules says of them.
type badRules struct {
	s    api.RoadRules
	want api.Errno
}

func allBadRules() []badRules {
	var l []badRules
	for _, s := range badSingles(0, 1024) {
		l = append(l,
			badRules{api.RoadRules{Grade: s.v, Bridge: 1}, s.want},
			badRules{api.RoadRules{Weight: s.v, Bridge: 1}, s.want},
			badRules{api.RoadRules{Dear: s.v, Bridge: 1}, s.want},
		)
	}
	for _, s := range append(badSingles(1, 1024), badSingle{0, api.ErrRange}, badSingle{-1, api.ErrRange}) {
		l = append(l, badRules{api.RoadRules{Bridge: s.v}, s.want})
	}
	for _, n := range append(outside(0, api.MaxSpan), 1, -2) {
		l = append(l, badRules{api.RoadRules{Bridge: 1, Span: n}, api.ErrRange})
	}
	for _, s := range badFields() {
		l = append(l, badRules{api.RoadRules{Bridge: 1, Costly: []api.Field{s.f}}, s.want})
	}
	for _, s := range badSingles(0, 1024) {
		l = append(l, badRules{api.RoadRules{Bridge: 1, Costly: []api.Field{row(1, s.v, 0)}}, s.want})
	}
	two := []api.Field{row(nan), row(1)}
	// Of several errors the one that is mentioned first.
	return append(l,
		badRules{api.RoadRules{}, api.ErrRange},
		badRules{api.RoadRules{Grade: -1, Weight: beyond, Bridge: 0, Dear: nan}, api.ErrForm},
		badRules{api.RoadRules{Grade: beyond, Weight: inf, Bridge: 1}, api.ErrForm},
		badRules{api.RoadRules{Bridge: nan, Span: 1}, api.ErrForm},
		badRules{api.RoadRules{Bridge: 0.5, Costly: two}, api.ErrRange},
		badRules{api.RoadRules{Bridge: 1, Span: 13, Costly: two}, api.ErrRange},
		badRules{api.RoadRules{Bridge: 1, Costly: two}, api.ErrLarge},
		badRules{api.RoadRules{Bridge: 1, Costly: []api.Field{row(1), row(1), row(1)}}, api.ErrLarge},
		badRules{api.RoadRules{Bridge: 1, Costly: []api.Field{row(-1, nan)}}, api.ErrForm},
		badRules{api.RoadRules{Bridge: 1, Costly: []api.Field{of(0, 0, 2, 1, -1)}}, api.ErrForm},
		badRules{api.RoadRules{Bridge: 1, Costly: []api.Field{{}}}, api.ErrRange},
	)
}

// badWay is a way with what is said of it.
type badWay struct {
	way  []api.Point
	want api.Errno
}

// badWays are none in the plane; those of ErrForm have only places of the field of field9.
func badWays() []badWay {
	var l []badWay
	for _, n := range outside(-api.MaxPlace, api.MaxPlace) {
		for _, p := range []api.Point{at(n, 0), at(0, n), at(n, n)} {
			l = append(l, badWay{[]api.Point{p}, api.ErrPlace}, badWay{[]api.Point{at(0, 0), p, p}, api.ErrPlace})
		}
	}
	for _, p := range places(0, 0, 13, 0, 0, 13, 13, 13, 1, 2, 2, 1, 5, 4, 12, 11) {
		l = append(l,
			badWay{[]api.Point{at(0, 0), p}, api.ErrForm}, badWay{[]api.Point{at(1, 1), at(0, 0), p, p}, api.ErrForm},
			badWay{[]api.Point{p, at(0, 0), at(1, 0)}, api.ErrForm},
		)
	}
	return append(l,
		badWay{nil, api.ErrEmpty}, badWay{[]api.Point{}, api.ErrEmpty},
		// The first bad place decides, and its own errors come in order.
		badWay{places(0, 0, 0, 0, 1<<40, 0), api.ErrForm}, badWay{places(0, 0, 1<<40, 0, 1<<40, 0), api.ErrPlace},
		badWay{places(api.MaxPlace, 0, api.MaxPlace+1, 0), api.ErrPlace}, badWay{places(math.MaxInt, 0, math.MinInt, 0), api.ErrPlace},
		badWay{long(api.MaxCells + 1), api.ErrLarge}, badWay{append(places(1<<40, 0), long(api.MaxCells)...), api.ErrLarge},
	)
}

// long is a way of so many places, to and fro.
func long(many int) []api.Point {
	way := make([]api.Point, many)
	for i := range way {
		way[i].X = i % 2
	}
	return way
}

// field9 is one with all places of the ways that have ErrForm.
func field9() api.Field { return flat(region(0, 0, 14, 14), 1) }

// ruled is a function with rules, with right other arguments; it tells whether it has a result.
type ruled struct {
	name string
	call func(f api.Field, s api.RoadRules) (some bool, e api.Errno)
}

func allRuled() []ruled {
	first := func(f api.Field) []api.Point { return []api.Point{at(f.X, f.Y)} }
	return []ruled{
		{"StepCost", func(f api.Field, s api.RoadRules) (bool, api.Errno) {
			cost, is, e := road.StepCost(f, s, at(f.X, f.Y), at(f.X, f.Y))
			return cost != 0 || is, e
		}},
		{"Costs", func(f api.Field, s api.RoadRules) (bool, api.Errno) {
			l, is, e := road.Costs(f, s, at(f.X, f.Y))
			return len(l)+len(is) > 0, e
		}},
		{"Way", func(f api.Field, s api.RoadRules) (bool, api.Errno) {
			way, price, e := road.Way(f, s, at(f.X, f.Y), at(f.X, f.Y))
			return len(way) > 0 || price != 0, e
		}},
		{"Within", func(f api.Field, s api.RoadRules) (bool, api.Errno) {
			l, e := road.Within(f, s, at(f.X, f.Y), 1)
			return len(l) > 0, e
		}},
		{"Price", func(f api.Field, s api.RoadRules) (bool, api.Errno) {
			price, e := road.Price(f, s, first(f))
			return price != 0, e
		}},
		{"Connect", func(f api.Field, s api.RoadRules) (bool, api.Errno) {
			l, e := road.Connect(f, s, first(f))
			return len(l) > 0, e
		}},
		{"Shortcuts", func(f api.Field, s api.RoadRules) (bool, api.Errno) {
			l, e := road.Shortcuts(f, s, first(f), nil, 1)
			return len(l) > 0, e
		}},
	}
}

// walker is a function with a way, with right other arguments; it tells whether it has a result.
type walker struct {
	name string
	call func(way []api.Point) (some bool, e api.Errno)
}

// walkers are the functions that need no field.
func walkers() []walker {
	return []walker{
		{"Bridges", func(way []api.Point) (bool, api.Errno) { l, e := road.Bridges(way); return len(l) > 0, e }},
		{"Length", func(way []api.Point) (bool, api.Errno) { v, e := road.Length(way); return v != 0, e }},
		{"Corners", func(way []api.Point) (bool, api.Errno) { l, e := road.Corners(way); return len(l) > 0, e }},
		{"Print", func(way []api.Point) (bool, api.Errno) { text, e := road.Print(way); return text != "", e }},
	}
}

// walkersIn are those that look at a field.
func walkersIn(f api.Field) []walker {
	return []walker{
		{"Grades", func(way []api.Point) (bool, api.Errno) { l, e := road.Grades(f, way); return len(l) > 0, e }},
		{"Bed", func(way []api.Point) (bool, api.Errno) {
			l, e := road.Bed(f, way, api.BedMean, 1)
			return len(l) > 0, e
		}},
		{"Build", func(way []api.Point) (bool, api.Errno) {
			g, e := road.Build(f, way, make([]float32, len(way)), 1, 1)
			return len(g.V) > 0 || g.Region != api.Region{}, e
		}},
	}
}
