package plant_test

import (
	"math"
	"slices"
	"testing"

	"tarnfell/api"
	"tarnfell/plant"
)

var (
	nan       = float32(math.NaN())
	inf       = float32(math.Inf(1))
	minusZero = float32(math.Copysign(0, -1))
)

const (
	top    = float32(api.MaxHeight)
	beyond = top + 0.125 // the least single above all heights
	tiny   = float32(math.SmallestNonzeroFloat32)
)

func region(x, y, w, h int) api.Region { return api.Region{X: x, Y: y, W: w, H: h} }

func at(x, y int) api.Point { return api.Point{X: x, Y: y} }

func of(x, y, w, h int, v ...float32) api.Field {
	return api.Field{Region: region(x, y, w, h), V: v}
}

// row is a field of one row at the place (0, 0).
func row(v ...float32) api.Field { return of(0, 0, len(v), 1, v...) }

func flat(r api.Region, v float32) api.Field {
	return api.Field{Region: r, V: slices.Repeat([]float32{v}, r.W*r.H)}
}

func after(v float32) float32 { return math.Nextafter32(v, inf) }

func before(v float32) float32 { return math.Nextafter32(v, -inf) }

func sameBits(a, b float32) bool { return math.Float32bits(a) == math.Float32bits(b) }

// calm is a kind that suits everywhere where the ground is flat, and from 0 to 10 high.
func calm() api.Kind {
	return api.Kind{Name: "calm", High: 10, Soft: 4, Steep: 2, Damp: 1, Top: 8, Pace: 2, Share: 1, Space: 2, Throw: 3}
}

// like is calm, but for what is changed.
func like(name string, change func(k *api.Kind)) api.Kind {
	k := calm()
	k.Name = name
	change(&k)
	return k
}

// kinds makes a list of kinds of a kind for each change of calm.
func kinds(changes ...func(k *api.Kind)) []api.Kind {
	var l []api.Kind
	for i, change := range changes {
		l = append(l, like(string(rune('a'+i)), change))
	}
	return l
}

func spaced(space int) func(k *api.Kind) { return func(k *api.Kind) { k.Space = space } }

func samePlant(a, b api.Plant) bool {
	return sameBits(a.Size, b.Size) && a.Kind == b.Kind && a.X == b.X && a.Y == b.Y && a.Age == b.Age
}

func wantError(t *testing.T, what string, e, want api.Errno) {
	t.Helper()
	if e != want {
		t.Errorf("%s: error %d, want %d", what, e, want)
	}
}

func wantSingle(t *testing.T, what string, v float32, e api.Errno, want float32) {
	t.Helper()
	if e != api.OK || !sameBits(v, want) {
		t.Errorf("%s: got %v, error %d; want %v", what, v, e, want)
	}
}

func wantNoSingle(t *testing.T, what string, v float32, e, want api.Errno) {
	t.Helper()
	if e != want || !sameBits(v, 0) {
		t.Errorf("%s: got %v, error %d; want error %d", what, v, e, want)
	}
}

func wantField(t *testing.T, what string, f api.Field, e api.Errno, want api.Field) {
	t.Helper()
	if e != api.OK || f.Region != want.Region || !slices.EqualFunc(f.V, want.V, sameBits) {
		t.Errorf("%s: got %v, error %d; want %v", what, f, e, want)
	}
}

func wantNoField(t *testing.T, what string, f api.Field, e, want api.Errno) {
	t.Helper()
	if e != want || f.Region != (api.Region{}) || len(f.V) != 0 {
		t.Errorf("%s: got %v, error %d; want error %d", what, f, e, want)
	}
}

func wantPlants(t *testing.T, what string, p []api.Plant, e api.Errno, want []api.Plant) {
	t.Helper()
	if e != api.OK || len(p) != len(want) {
		t.Errorf("%s: got %d plants, error %d; want %d", what, len(p), e, len(want))
		return
	}
	for i, v := range p {
		if !samePlant(v, want[i]) {
			t.Errorf("%s: got %v as the plant number %d of %d, want %v", what, v, i, len(p), want[i])
			return
		}
	}
}

func wantList[T comparable](t *testing.T, what string, l []T, e api.Errno, want ...T) {
	t.Helper()
	if e != api.OK || !slices.Equal(l, want) {
		t.Errorf("%s: got %v, error %d; want %v", what, l, e, want)
	}
}

func wantNoList[T any](t *testing.T, what string, l []T, e, want api.Errno) {
	t.Helper()
	if e != want || len(l) != 0 {
		t.Errorf("%s: got %d items, error %d; want error %d", what, len(l), e, want)
	}
}

// wantRefused is for functions that tell whether they have a result.
func wantRefused(t *testing.T, what string, some bool, e, want api.Errno) {
	t.Helper()
	if some || e != want {
		t.Errorf("%s: error %d, want %d; it has a result: %v", what, e, want, some)
	}
}

// numbers is a sequence that is the same in every run.
type numbers struct{ state uint64 }

func (n *numbers) next() uint32 {
	n.state = n.state*6364136223846793005 + 1442695040888963407
	return uint32(n.state >> 32)
}

func (n *numbers) between(least, most int) int {
	return least + int((uint64(n.next())<<32|uint64(n.next()))%uint64(most-least+1))
}

// single is from -1 to 1.
func (n *numbers) single() float32 { return float32(int32(n.next())) / (1 << 31) }

// share is from 0 to 1.
func (n *numbers) share() float32 { return float32(n.next()) / (1 << 32) }

func (n *numbers) pick(l ...float32) float32 { return l[n.between(0, len(l)-1)] }

// height has any sign, and any magnitude up to most.
func (n *numbers) height(most float32) float32 {
	for {
		if v := math.Float32frombits(n.next()); v >= -most && v <= most {
			return v
		}
	}
}

func (n *numbers) field(r api.Region, value func() float32) api.Field {
	f := api.Field{Region: r}
	for range r.W * r.H {
		f.V = append(f.V, value())
	}
	return f
}

// kind has any of what kinds can have, most often what suits heights from -4 to 9 and wetness from 0 to 2.
func (n *numbers) kind(name string) api.Kind {
	low, dry := n.single()*4, n.share()
	return api.Kind{
		Name: name,
		Low:  low, High: low + n.pick(0, 1, 5), Soft: n.pick(0, 0.5, 3, 3, top), Steep: n.pick(0, 0.5, 2, 8, 8, top),
		Dry: dry, Damp: dry + n.pick(0, 0.5, 1), Top: n.pick(0, tiny, 1, 5, 5, top), Pace: n.pick(0, 0.01, 1, 1, 30, top),
		Share: n.pick(0, 0.1, 0.5, 1), Bark: n.pick(0, 0.3, 0.6, 1),
		Space: []int{0, 1, 2, 3, 5, 32}[n.between(0, 5)], Throw: []int{0, 1, 3, 8, 32}[n.between(0, 4)],
	}
}

func (n *numbers) kinds(many int) []api.Kind {
	var l []api.Kind
	for i := range many {
		l = append(l, n.kind(string(rune('a'+i))))
	}
	return l
}

// plants stand in one of so many cells of a region, on an average; their sizes are of several forms.
func (n *numbers) plants(r api.Region, l []api.Kind, apart, oldest int) []api.Plant {
	var p []api.Plant
	for i := range r.W * r.H {
		if n.between(1, apart) > 1 {
			continue
		}
		kind := n.between(0, len(l)-1)
		most := l[kind].Top
		size := n.pick(0, minusZero, most, half(most), before(half(most)), n.share()*most, n.share()*most, n.share()*most)
		if size < 0 {
			size = 0
		}
		p = append(p, api.Plant{Kind: kind, X: r.X + i%r.W, Y: r.Y + i/r.W, Size: size, Age: n.between(0, oldest)})
	}
	return p
}

func half(v float32) float32 { return v * 0.5 }

func regions() []api.Region {
	return []api.Region{region(0, 0, 1, 1), region(5, -7, 6, 1), region(-1, 0, 1, 15), region(3, 3, 2, 5), region(-9, 4, 17, 12), region(-api.MaxPlace, api.MaxPlace-9, 24, 9)}
}

// wood is a field with its wetness, kinds and plants.
type wood struct {
	f, wet api.Field
	l      []api.Kind
	p      []api.Plant
}

// woods have fields of several forms: flat ones, gentle and rough ones, and such with slopes that are no heights.
func (n *numbers) woods(oldest int) []wood {
	var l []wood
	for _, r := range regions() {
		for _, height := range []func() float32{
			func() float32 { return 1 },
			func() float32 { return n.single() * 4 },
			func() float32 { return n.single() },
			func() float32 { return float32(n.between(0, 4)) },
			func() float32 { return n.height(top) },
			func() float32 { return n.pick(0, 1, 1, 1, top, -top) },
			func() float32 { return n.pick(0, minusZero) },
		} {
			for apart := range 3 {
				k := n.kinds(n.between(1, 4))
				wet := n.field(r, func() float32 { return n.pick(n.single()*2, n.share(), 0.5, minusZero) })
				l = append(l, wood{n.field(r, height), wet, k, n.plants(r, k, 1+apart*apart*3, oldest)})
			}
		}
	}
	return l
}

// badField is a field with what field.Check says of it.
type badField struct {
	f    api.Field
	want api.Errno
}

func badFields() []badField {
	var l []badField
	for _, s := range badRegions() {
		l = append(l, badField{api.Field{Region: s.r, V: []float32{nan}}, s.want})
	}
	return append(l,
		badField{of(0, 0, 3, 1), api.ErrForm},
		badField{of(0, 0, 3, 1, 1, 2), api.ErrForm},
		badField{of(0, 0, 3, 1, 1, 2, 3, 4), api.ErrForm},
		badField{of(0, 0, 3, 1, beyond, 2, nan), api.ErrForm},
		badField{row(1, -inf, 2), api.ErrForm},
		badField{row(1, inf, 2), api.ErrForm},
		badField{row(beyond, 2, 3), api.ErrRange},
		badField{row(1, 2, -beyond), api.ErrRange},
	)
}

// badRegion is a region with what field.CheckRegion says of it.
type badRegion struct {
	r    api.Region
	want api.Errno
}

func badRegions() []badRegion {
	return []badRegion{
		{api.Region{}, api.ErrRange}, {region(0, 0, 0, 1), api.ErrRange}, {region(0, 0, 3, 513), api.ErrRange},
		{region(0, 0, math.MaxInt, math.MaxInt), api.ErrRange}, {region(0, 0, 512, 129), api.ErrLarge},
		{region(-api.MaxPlace-1, 0, 3, 1), api.ErrPlace}, {region(0, api.MaxPlace, 3, 1), api.ErrPlace},
		{region(math.MaxInt, math.MinInt, 3, 3), api.ErrPlace},
	}
}

// badSingle is a single with what is said of it where it should be from low to high, both heights.
type badSingle struct {
	v    float32
	want api.Errno
}

func badSingles(low, high float32) []badSingle {
	return []badSingle{
		{nan, api.ErrForm}, {inf, api.ErrForm}, {-inf, api.ErrForm},
		{before(low), api.ErrRange}, {after(high), api.ErrRange},
		{beyond, api.ErrRange}, {-beyond, api.ErrRange}, {math.MaxFloat32, api.ErrRange}, {-math.MaxFloat32, api.ErrRange},
	}
}

// outside has integers that are not from low to high; one of them is high in its lowest bits.
func outside(low, high int) []int {
	return []int{low - 1, high + 1, -1 << 60, 1 << 60, math.MinInt, math.MaxInt, high + 1<<44}
}

// badKinds are kinds with what CheckKinds says of them.
type badKinds struct {
	l    []api.Kind
	want api.Errno
}

func allBadKinds() []badKinds {
	l := []badKinds{
		{nil, api.ErrEmpty}, {[]api.Kind{}, api.ErrEmpty},
		{make([]api.Kind, api.MaxKinds+1), api.ErrLarge},
		{[]api.Kind{calm(), calm()}, api.ErrTwice},
		{[]api.Kind{like("a", spaced(1)), like("b", spaced(2)), like("a", spaced(3))}, api.ErrTwice},
		// The first bad kind decides, and its own errors come in order.
		{[]api.Kind{calm(), calm(), {}}, api.ErrTwice},
		{[]api.Kind{calm(), {}, calm()}, api.ErrName},
		{[]api.Kind{calm(), like("calm", func(k *api.Kind) { k.Top = nan })}, api.ErrForm},
		{[]api.Kind{calm(), like("calm", func(k *api.Kind) { k.Space = 33 })}, api.ErrRange},
	}
	for _, s := range badSortOfKinds() {
		l = append(l, badKinds{[]api.Kind{s.k}, s.want}, badKinds{[]api.Kind{like("other", spaced(0)), s.k}, s.want})
	}
	return l
}

// badPlants are plants with what CheckPlants says of them, with the kinds of goodKinds.
type badPlants struct {
	p    []api.Plant
	want api.Errno
}

func goodKinds() []api.Kind {
	return kinds(func(k *api.Kind) { k.Top = 8 }, func(k *api.Kind) { k.Top = top })
}

func allBadPlants() []badPlants {
	good := api.Plant{X: -9, Y: -9}
	l := []badPlants{
		{make([]api.Plant, api.MaxPlants+1), api.ErrLarge}, {slices.Repeat([]api.Plant{{Kind: -1}}, api.MaxPlants+1), api.ErrLarge},
		{[]api.Plant{good, good}, api.ErrOrder}, {[]api.Plant{{X: 1}, {}}, api.ErrOrder}, {[]api.Plant{{Y: 1}, {X: 1}}, api.ErrOrder},
		{[]api.Plant{{}, {X: 1}, {X: 1}, {X: 2}}, api.ErrOrder}, {[]api.Plant{{}, {X: 1, Age: 2, Size: 3}, {X: 1, Kind: 1}}, api.ErrOrder},
		// The first bad plant decides, and its own errors come in order.
		{[]api.Plant{good, {Kind: 2, X: 1 << 40, Size: nan, Age: -1}}, api.ErrKind},
		{[]api.Plant{good, {X: 1 << 40, Size: nan, Age: -1}}, api.ErrPlace},
		{[]api.Plant{{X: 9}, {Size: nan, Age: -1}}, api.ErrForm},
		{[]api.Plant{{X: 9}, {Size: 8.5}}, api.ErrRange},
		{[]api.Plant{{X: 9}, {Age: -1}}, api.ErrRange},
		{[]api.Plant{{X: 9}, {}, {Kind: -1}}, api.ErrOrder},
		{[]api.Plant{{Size: 9}, {X: 1, Size: nan}}, api.ErrRange},
		{[]api.Plant{{Age: -1}, {X: 1, Size: nan}}, api.ErrRange},
	}
	add := func(v api.Plant, want api.Errno) {
		l = append(l, badPlants{[]api.Plant{v}, want}, badPlants{[]api.Plant{{X: -api.MaxPlace, Y: -api.MaxPlace}, v}, want})
	}
	for _, n := range outside(0, 1) {
		add(api.Plant{Kind: n}, api.ErrKind)
	}
	for _, n := range outside(-api.MaxPlace, api.MaxPlace) {
		add(api.Plant{X: n}, api.ErrPlace)
		add(api.Plant{Y: n}, api.ErrPlace)
	}
	for _, n := range outside(0, api.MaxYears) {
		add(api.Plant{Age: n}, api.ErrRange)
	}
	for kind, most := range []float32{8, top} {
		for _, s := range badSingles(0, most) {
			add(api.Plant{Kind: kind, Size: s.v}, s.want)
		}
	}
	return l
}

// planted is a function with kinds and plants, with right other arguments; it tells whether it has a result.
type planted struct {
	name string
	call func(l []api.Kind, p []api.Plant) (some bool, e api.Errno)
}

func allPlanted() []planted {
	r := region(0, 0, 2, 2)
	return []planted{
		{"CheckPlants", func(l []api.Kind, p []api.Plant) (bool, api.Errno) { return false, plant.CheckPlants(l, p) }},
		{"Apart", func(l []api.Kind, p []api.Plant) (bool, api.Errno) { q, e := plant.Apart(l, p); return len(q) > 0, e }},
		{"Crowd", func(l []api.Kind, p []api.Plant) (bool, api.Errno) { v, e := plant.Crowd(l, p, 0); return v != 0, e }},
		{"Cover", func(l []api.Kind, p []api.Plant) (bool, api.Errno) {
			f, e := plant.Cover(r, l, p)
			return len(f.V)+f.W > 0, e
		}},
		{"Shade", func(l []api.Kind, p []api.Plant) (bool, api.Errno) {
			f, e := plant.Shade(r, l, p)
			return len(f.V)+f.W > 0, e
		}},
		{"Burn", func(l []api.Kind, p []api.Plant) (bool, api.Errno) {
			n, e := plant.Burn(l, p, at(0, 0), 0)
			return len(n) > 0, e
		}},
		{"Count", func(l []api.Kind, p []api.Plant) (bool, api.Errno) { c, e := plant.Count(l, p); return len(c) > 0, e }},
		{"Print", func(l []api.Kind, p []api.Plant) (bool, api.Errno) { s, e := plant.Print(l, p); return s != "", e }},
	}
}

// landed is a function with fields, kinds and plants, with right other arguments; it tells whether it has a result.
type landed struct {
	name string
	call func(f, wet api.Field, l []api.Kind, p []api.Plant) (some bool, e api.Errno)
}

func allLanded() []landed {
	return []landed{
		{"Grow", func(f, wet api.Field, l []api.Kind, p []api.Plant) (bool, api.Errno) {
			q, e := plant.Grow(f, wet, l, p)
			return len(q) > 0, e
		}},
		{"Seeds", func(f, wet api.Field, l []api.Kind, p []api.Plant) (bool, api.Errno) {
			q, e := plant.Seeds(f, wet, l, p, 1, 2)
			return len(q) > 0, e
		}},
		{"Years", func(f, wet api.Field, l []api.Kind, p []api.Plant) (bool, api.Errno) {
			q, e := plant.Years(f, wet, l, p, 1, 2)
			return len(q) > 0, e
		}},
	}
}

// sown are the functions with fields and kinds; those that take one kind take the last one.
func sown() []landed {
	return append(allLanded(),
		landed{"Sprouts", func(f, wet api.Field, l []api.Kind, _ []api.Plant) (bool, api.Errno) {
			q, e := plant.Sprouts(f, wet, l, 1)
			return len(q) > 0, e
		}},
		landed{"Fitness", func(f, wet api.Field, l []api.Kind, _ []api.Plant) (bool, api.Errno) {
			g, e := plant.Fitness(f, wet, l[len(l)-1])
			return len(g.V)+g.W > 0, e
		}},
	)
}
