package plant_test

import (
	"slices"
	"testing"

	"tarnfell/api"
	"tarnfell/noise"
	"tarnfell/plant"
)

// P130: known values.
func TestCoverAndShade(t *testing.T) {
	l := kinds(spaced(2), spaced(0), func(k *api.Kind) { k.Top, k.Space = 0, 3 }, func(k *api.Kind) { k.Top = minusZero }, spaced(32))
	third := float32(1) / 3
	for _, s := range []struct {
		r            api.Region
		p            []api.Plant
		cover, shade []float32
	}{
		{region(0, 0, 3, 1), nil, []float32{0, 0, 0}, []float32{0, 0, 0}},
		{region(0, 0, 5, 1), []api.Plant{{Size: 4}}, []float32{0.5, 0.5 * (1 - third), 0.5 * (1 - 2*third), 0, 0}, []float32{4, 4 * (1 - third), 4 * (1 - 2*third), 0, 0}},
		{region(1, 1, 2, 2), []api.Plant{{Size: 8}}, []float32{1 - root(2)/3, 1 - root(5)/3, 1 - root(5)/3, 1 - root(8)/3}, []float32{8 * (1 - root(2)/3), 8 * (1 - root(5)/3), 8 * (1 - root(5)/3), 8 * (1 - root(8)/3)}},
		{region(-1, 0, 3, 1), []api.Plant{{Kind: 1, Size: 8}}, []float32{0, 1, 0}, []float32{0, 8, 0}},
		{region(0, -1, 1, 3), []api.Plant{{Kind: 1, Size: 6}}, []float32{0, 0.75, 0}, []float32{0, 6, 0}},
		{region(0, 0, 2, 1), []api.Plant{{Size: 4}, {X: 1, Size: 6}}, []float32{0.5, 0.75}, []float32{4 + float32(6*(1-third)), float32(4*(1-third)) + 6}},
		// Of no size at all: the Top is 0.
		{region(0, 0, 2, 1), []api.Plant{{Kind: 2}}, []float32{0, 0}, []float32{0, 0}},
		{region(0, 0, 2, 1), []api.Plant{{Kind: 2, Size: minusZero}}, []float32{0, 0}, []float32{minusZero, minusZero}},
		{region(0, 0, 2, 1), []api.Plant{{Kind: 3}}, []float32{0, 0}, []float32{0, 0}},
		{region(32, 0, 2, 1), []api.Plant{{Kind: 4, Size: 8}}, []float32{1 - float32(32)/33, 0}, []float32{8 * (1 - float32(32)/33), 0}},
		{region(0, -33, 1, 2), []api.Plant{{Kind: 4, Size: 8}}, []float32{0, 1 - float32(32)/33}, []float32{0, 8 * (1 - float32(32)/33)}},
		// What begins with -0 stays so; of equal ones the first one is taken.
		{region(0, 0, 2, 1), []api.Plant{{Kind: 1, Size: minusZero}}, []float32{minusZero, 0}, []float32{minusZero, 0}},
		{region(0, 0, 2, 1), []api.Plant{{Size: minusZero}, {X: 1}}, []float32{minusZero, minusZero}, []float32{0, 0}},
		{region(0, 0, 2, 1), []api.Plant{{}, {X: 1, Size: minusZero}}, []float32{0, 0}, []float32{0, 0}},
	} {
		f, e := plant.Cover(s.r, l, s.p)
		wantField(t, "Cover", f, e, api.Field{Region: s.r, V: s.cover})
		f, e = plant.Shade(s.r, l, s.p)
		wantField(t, "Shade", f, e, api.Field{Region: s.r, V: s.shade})
	}
}

// P130: the sum is in the order of the list: what comes first tells what is lost.
func TestShadeInOrder(t *testing.T) {
	l := kinds(func(k *api.Kind) { k.Top, k.Space = top, 1 })
	small := float32(0.0625)
	for _, s := range []struct {
		sizes []float32
		want  float32
	}{
		{[]float32{top, small, small}, top / 2}, {[]float32{small, small, top}, top/2 + 0.0625},
	} {
		f, e := plant.Shade(region(0, 0, 1, 1), l, []api.Plant{{Y: -1, Size: s.sizes[0]}, {X: 1, Size: s.sizes[1]}, {Y: 1, Size: s.sizes[2]}})
		wantField(t, "Shade", f, e, row(s.want))
	}
}

// P130: bit by bit the formulas, on regions that lie anywhere.
func TestCoverAndShadeByChance(t *testing.T) {
	n := &numbers{state: 14}
	covered := 0
	for _, w := range n.woods(9) {
		r := w.f.Region
		for _, part := range []api.Region{r, region(r.X-3, r.Y-2, r.W+5, r.H+7), region(min(r.X+2, api.MaxPlace-1), r.Y, 1, r.H), region(r.X+r.W+1, r.Y, 3, 2), region(r.X, r.Y-40, 2, 8)} {
			if e := checkPlaces(part); e != api.OK {
				continue
			}
			f, e := plant.Cover(part, w.l, w.p)
			wantField(t, "Cover", f, e, coverOf(part, w.l, w.p))
			for _, v := range f.V {
				if v > 0 {
					covered++
				}
				if !(v >= 0 && v <= 1) {
					t.Error("Cover", v)
				}
			}
			want := shadeOf(part, w.l, w.p)
			f, e = plant.Shade(part, w.l, w.p)
			if slices.Max(want.V) > top {
				wantNoField(t, "Shade", f, e, api.ErrRange)
			} else {
				wantField(t, "Shade", f, e, want)
			}
		}
	}
	if covered < 5000 {
		t.Error("too few cells are covered:", covered)
	}
}

func checkPlaces(r api.Region) api.Errno {
	if r.X < -api.MaxPlace || r.Y < -api.MaxPlace || r.X+r.W > api.MaxPlace || r.Y+r.H > api.MaxPlace {
		return api.ErrPlace
	}
	return api.OK
}

// P130: errors of the region come first; ErrRange, if a shade is no height.
func TestCoverAndShadeErrors(t *testing.T) {
	l := kinds(func(k *api.Kind) { k.Top, k.Space = top, 1 })
	for _, s := range badRegions() {
		for _, p := range [][]api.Plant{nil, {{Size: 1}}, {{Kind: -1}}} {
			f, e := plant.Cover(s.r, l, p)
			wantNoField(t, "Cover", f, e, s.want)
			f, e = plant.Shade(s.r, l, p)
			wantNoField(t, "Shade", f, e, s.want)
			f, e = plant.Cover(s.r, nil, p)
			wantNoField(t, "Cover", f, e, s.want)
			f, e = plant.Shade(s.r, nil, p)
			wantNoField(t, "Shade", f, e, s.want)
		}
	}
	r := region(0, 0, 3, 1)
	p := []api.Plant{{Size: top}, {X: 1, Size: 0.25}, {X: 2}}
	f, e := plant.Shade(r, l, p)
	wantNoField(t, "Shade", f, e, api.ErrRange)
	f, e = plant.Cover(r, l, p)
	wantField(t, "Cover", f, e, of(0, 0, 3, 1, 1, 0.5, 0.125/top))
	p[1].Size = 0.125
	f, e = plant.Shade(r, l, p)
	wantField(t, "Shade", f, e, of(0, 0, 3, 1, top, top/2+0.125, 0.0625))
	f, e = plant.Shade(region(1, 0, 2, 1), l, []api.Plant{{Size: top}, {X: 1, Size: 0.25}})
	wantField(t, "Shade", f, e, of(1, 0, 2, 1, top/2+0.25, 0.125))
}

// burning has a kind that always burns, if its Hash is not 0, and others that bear fire.
func burning(space int) []api.Kind {
	return kinds(spaced(space), func(k *api.Kind) { k.Space, k.Bark = space, 1 }, spaced(0))
}

// P131: known fires.
func TestBurn(t *testing.T) {
	l := burning(2)
	row := func(l ...int) []api.Plant {
		var p []api.Plant
		for _, x := range l {
			p = append(p, api.Plant{X: x})
		}
		return p
	}
	for _, s := range []struct {
		p    []api.Plant
		from api.Point
		wind int
		want []int
	}{
		{nil, at(0, 0), -1, nil},
		{row(0, 1, 4), at(2, 0), -1, []int{0, 1, 2}},
		// At the beginning what is at most 3 cells away.
		{row(3), at(0, 0), -1, []int{0}}, {row(-3), at(0, 0), -1, []int{0}}, {row(4), at(0, 0), -1, nil}, {row(0), at(2, 2), -1, []int{0}}, {row(0), at(-3, 1), -1, nil}, {row(0), at(0, 3), 4, []int{0}}, {row(0), at(0, -4), 6, nil},
		// Then what is at most 5 cells away, and 7 in the wind.
		{row(0, 5, 10, 15), at(-3, 0), -1, []int{0, 1, 2, 3}}, {row(0, 6), at(0, 0), -1, []int{0}},
		{row(0, 7, 14), at(0, 0), 0, []int{0, 1, 2}}, {row(0, 7, 14), at(14, 0), 0, []int{2}}, {row(0, 7, 14), at(7, 0), 4, []int{0, 1}}, {row(0, 8), at(0, 0), 0, []int{0}},
		{row(0, 7), at(0, 0), 1, []int{0, 1}}, {row(0, 7), at(0, 0), 7, []int{0, 1}}, {row(0, 7), at(0, 0), 3, []int{0}}, {row(0, 7), at(7, 0), 3, []int{0, 1}},
		// Across the wind there is no wind.
		{row(0, 7), at(0, 0), 2, []int{0}}, {row(0, 7), at(0, 0), 6, []int{0}}, {row(0, 5), at(0, 0), 6, []int{0, 1}}, {row(0, 5), at(0, 0), 4, []int{0, 1}},
		{[]api.Plant{{}, {X: -4, Y: 4}}, at(0, 0), 1, []int{0}}, {[]api.Plant{{}, {X: -4, Y: 4}}, at(0, 0), 7, []int{0}}, {[]api.Plant{{}, {X: -4, Y: 4}}, at(0, 0), 2, []int{0, 1}}, {[]api.Plant{{}, {X: -3, Y: 4}}, at(0, 0), 7, []int{0, 1}},
		{[]api.Plant{{}, {X: -3, Y: 6}}, at(0, 0), 1, []int{0, 1}}, {[]api.Plant{{}, {X: -3, Y: 6}}, at(-3, 6), 5, []int{0, 1}}, {[]api.Plant{{}, {X: -3, Y: 6}}, at(0, 0), 5, []int{0}},
		// Bark keeps from burning, also where the fire begins, and ends it.
		{[]api.Plant{{Kind: 1}}, at(0, 0), -1, nil}, {[]api.Plant{{}, {X: 5, Kind: 1}, {X: 10}}, at(0, 0), -1, []int{0}}, {[]api.Plant{{Kind: 1}, {X: 5}}, at(0, 0), -1, nil},
		// The sum of both spaces.
		{[]api.Plant{{}, {X: 3, Kind: 2}, {X: 4, Kind: 2}}, at(0, -3), -1, []int{0, 1, 2}}, {[]api.Plant{{}, {X: 4, Kind: 2}}, at(-3, 0), -1, []int{0}}, {[]api.Plant{{Kind: 2}, {X: 4}}, at(-3, 0), -1, []int{0}}, {[]api.Plant{{Kind: 2}, {X: 3}, {X: 6, Kind: 2}, {X: 8, Kind: 2}}, at(-3, 0), -1, []int{0, 1, 2}},
	} {
		n, e := plant.Burn(l, s.p, s.from, s.wind)
		wantList(t, "Burn", n, e, s.want...)
	}
	far := burning(32)
	for d, want := range map[int][]int{65: {0, 1}, 66: {0}} {
		n, e := plant.Burn(far, []api.Plant{{}, {Y: d}}, at(0, 0), -1)
		wantList(t, "Burn", n, e, want...)
		n, e = plant.Burn(far, []api.Plant{{}, {X: d + 2}}, at(0, 0), 7)
		wantList(t, "Burn", n, e, want...)
	}
}

// P131: bark that is equal to what chance says bears the fire.
func TestBurnByBark(t *testing.T) {
	for x := range 200 {
		chance := noise.Unit(noise.Hash(1, x, 3*x, 5))
		for bark, want := range map[float32][]int{chance: nil, before(chance): {0}, after(chance): nil, 0: {0}, 1: nil} {
			l := kinds(func(k *api.Kind) { k.Bark = bark })
			n, e := plant.Burn(l, []api.Plant{{X: x, Y: 3 * x}}, at(x, 3*x), x%9-1)
			wantList(t, "Burn", n, e, want...)
		}
	}
}

// P131: the rules, until no more are lit.
func TestBurnByChance(t *testing.T) {
	n := &numbers{state: 15}
	some, most := 0, 0
	for i, w := range append(n.woods(9), n.scattered()...) {
		r := w.f.Region
		from := at(n.between(r.X-2, r.X+r.W+1), n.between(r.Y-2, r.Y+r.H+1))
		if max(from.X, -from.X, from.Y, -from.Y) > api.MaxPlace {
			from = at(r.X, r.Y)
		}
		want := burnOf(w.l, w.p, from, i%9-1)
		l, e := plant.Burn(w.l, w.p, from, i%9-1)
		wantList(t, "Burn", l, e, want...)
		if len(want) > 9 && len(want) < len(w.p) {
			some++
		}
		most = max(most, len(want))
	}
	if some < 50 || most < 50 {
		t.Error("too few fires:", some, most)
	}
}

// scattered has woods whose plants are so far from each other that a fire may end anywhere.
func (n *numbers) scattered() []wood {
	var l []wood
	for range 200 {
		r := region(0, 0, 60, 60)
		bark := n.share() * 0.5
		k := kinds(func(k *api.Kind) { k.Space, k.Bark = n.between(0, 3), bark }, func(k *api.Kind) { k.Space, k.Bark = n.between(0, 2), 0 })
		l = append(l, wood{f: api.Field{Region: r}, l: k, p: n.plants(r, k, n.between(15, 60), 9)})
	}
	return l
}

// P131: errors of the place and of the wind, and their order.
func TestBurnErrors(t *testing.T) {
	l, p := burning(2), []api.Plant{{}}
	for _, n := range outside(-api.MaxPlace, api.MaxPlace) {
		for _, from := range []api.Point{at(n, 0), at(0, n), at(n, n)} {
			for _, wind := range []int{0, 8} {
				burnt, e := plant.Burn(l, p, from, wind)
				wantNoList(t, "Burn", burnt, e, api.ErrPlace)
			}
		}
	}
	for _, n := range outside(-1, 7) {
		burnt, e := plant.Burn(l, p, at(0, 0), n)
		wantNoList(t, "Burn", burnt, e, api.ErrRange)
	}
	for _, from := range []api.Point{at(api.MaxPlace, api.MaxPlace), at(-api.MaxPlace, -api.MaxPlace)} {
		burnt, e := plant.Burn(l, []api.Plant{{X: from.X, Y: from.Y}}, from, 3)
		wantList(t, "Burn", burnt, e, 0)
	}
}

// P132: known values.
func TestCount(t *testing.T) {
	l := kinds(func(k *api.Kind) { k.Top = 8 }, func(k *api.Kind) { k.Top = 0 }, func(k *api.Kind) { k.Top = top }, func(k *api.Kind) { k.Top = tiny })
	three := float32(3)
	for _, s := range []struct {
		p    []api.Plant
		want [4]api.Census
	}{
		{nil, [4]api.Census{}},
		{[]api.Plant{{Size: 4}, {X: 1, Size: 6, Age: 7}, {X: 4, Size: 1, Age: 3}}, [4]api.Census{{Many: 3, Young: 1, Oldest: 7, Sum: 11, Mean: 11 / three}}},
		{[]api.Plant{{Size: before(4)}, {X: 1, Kind: 1, Age: 2}, {X: 2, Kind: 2, Size: top}, {X: 3, Kind: 2, Size: top, Age: 1000}}, [4]api.Census{{Many: 1, Young: 1, Sum: before(4), Mean: before(4)}, {Many: 1, Oldest: 2}, {Many: 2, Oldest: 1000, Sum: 2 * top, Mean: top}}},
		{[]api.Plant{{Kind: 3}, {X: 1, Kind: 3, Size: tiny}}, [4]api.Census{3: {Many: 2, Young: 0, Sum: tiny}}},
		{[]api.Plant{{Size: minusZero}, {X: 1, Kind: 2, Size: minusZero}, {X: 2, Kind: 2}}, [4]api.Census{{Many: 1, Young: 1, Sum: minusZero, Mean: minusZero}, {}, {Many: 2, Young: 2}}},
		// In the order of the list.
		{[]api.Plant{{Kind: 2, Size: top}, {X: 1, Kind: 2, Size: 0.0625}, {X: 2, Kind: 2, Size: 0.0625}}, [4]api.Census{2: {Many: 3, Young: 2, Sum: top, Mean: top / 3}}},
		{[]api.Plant{{Kind: 2, Size: 0.0625}, {X: 1, Kind: 2, Size: 0.0625}, {X: 2, Kind: 2, Size: top}}, [4]api.Census{2: {Many: 3, Young: 2, Sum: beyond, Mean: beyond / 3}}},
	} {
		c, e := plant.Count(l, s.p)
		wantCensus(t, c, e, s.want[:])
	}
}

func wantCensus(t *testing.T, c []api.Census, e api.Errno, want []api.Census) {
	t.Helper()
	same := func(a, b api.Census) bool {
		return a == b && sameBits(a.Sum, b.Sum) && sameBits(a.Mean, b.Mean)
	}
	if e != api.OK || !slices.EqualFunc(c, want, same) {
		t.Errorf("Count: got %v, error %d; want %v", c, e, want)
	}
}

// P132: bit by bit the formulas; and a whole list of the greatest plants.
func TestCountByChance(t *testing.T) {
	n := &numbers{state: 16}
	for _, w := range append(n.woods(api.MaxYears), n.crowded()...) {
		c, e := plant.Count(w.l, w.p)
		wantCensus(t, c, e, countOf(w.l, w.p))
	}
	p := many(api.MaxPlants)
	for i := range p {
		p[i].Size = top
	}
	c, e := plant.Count(kinds(func(k *api.Kind) { k.Top = top }), p)
	wantCensus(t, c, e, []api.Census{{Many: 4000, Sum: 4000 * top, Mean: top}})
}

// P132: known values, and the first one of equal ones.
func TestNearest(t *testing.T) {
	p := []api.Plant{{X: 0, Y: 0}, {X: 4, Y: 0}, {X: 0, Y: 4}, {X: 0, Y: 4, Kind: -5, Size: nan, Age: -1}, {X: -4, Y: -4}}
	for from, want := range map[api.Point]int{
		at(0, 0): 0, at(3, 0): 1, at(2, 0): 0, at(0, 2): 0, at(0, 3): 2, at(0, 9): 2, at(2, 2): 0, at(3, 3): 1, at(-4, -3): 4, at(-2, -2): 0, at(-3, -2): 4,
		at(api.MaxPlace, api.MaxPlace): 1, at(api.MaxPlace, -api.MaxPlace): 1, at(-api.MaxPlace, -api.MaxPlace): 4,
	} {
		i, e := plant.Nearest(p, from)
		if i != want || e != api.OK {
			t.Errorf("Nearest to %v: %d, error %d; want %d", from, i, e, want)
		}
	}
	corners := []api.Plant{{X: api.MaxPlace, Y: api.MaxPlace}, {X: -api.MaxPlace, Y: -api.MaxPlace}}
	for i, v := range corners {
		k, e := plant.Nearest(corners, at(v.X, v.Y))
		if k != i || e != api.OK {
			t.Error("Nearest", i, k, e)
		}
	}
	n := &numbers{state: 17}
	for _, w := range n.woods(9) {
		for range 20 {
			from := at(w.f.X+n.between(-1, w.f.W), w.f.Y+n.between(-1, w.f.H))
			if len(w.p) == 0 || max(-from.X, from.Y) > api.MaxPlace {
				continue
			}
			i, e := plant.Nearest(w.p, from)
			if i != nearestOf(w.p, from) || e != api.OK {
				t.Error("Nearest", i, e)
			}
		}
	}
}

// P132: errors, and their order.
func TestNearestErrors(t *testing.T) {
	wantNone := func(p []api.Plant, from api.Point, want api.Errno) {
		t.Helper()
		i, e := plant.Nearest(p, from)
		wantRefused(t, "Nearest", i != 0, e, want)
	}
	far := at(1<<40, 0)
	for _, from := range []api.Point{at(0, 0), far} {
		wantNone(nil, from, api.ErrNone)
		wantNone([]api.Plant{}, from, api.ErrNone)
		wantNone(many(api.MaxPlants+1), from, api.ErrLarge)
		wantNone(append([]api.Plant{{X: 1 << 40}}, many(api.MaxPlants)...), from, api.ErrLarge)
		for _, n := range outside(-api.MaxPlace, api.MaxPlace) {
			wantNone([]api.Plant{{}, {}, {X: n}}, from, api.ErrPlace)
			wantNone([]api.Plant{{Y: n}, {}}, from, api.ErrPlace)
		}
	}
	for _, n := range outside(-api.MaxPlace, api.MaxPlace) {
		wantNone([]api.Plant{{}, {X: 1}}, at(n, 0), api.ErrPlace)
		wantNone([]api.Plant{{}, {X: 1}}, at(0, n), api.ErrPlace)
	}
	i, e := plant.Nearest(many(api.MaxPlants), at(79, 49))
	if i != api.MaxPlants-1 || e != api.OK {
		t.Error("Nearest", i, e)
	}
}
