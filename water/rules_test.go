package water_test

import (
	"math"
	"slices"
	"testing"

	"tarnfell/api"
	"tarnfell/field"
	"tarnfell/water"
)

var (
	wildInts    = []int{0, 1, -1, 2, 7, 8, 50, 100, 512, api.MaxPlace, -api.MaxPlace, 1 << 30, 1<<32 + 1, 1 << 40, -1 << 62, math.MaxInt, math.MinInt}
	wildSingles = []float32{0, minusZero, 1, -0.5, 0.125, tiny, 64, 1024, top, -top, beyond, math.MaxFloat32, -math.MaxFloat32, inf, -inf, nan}
)

// wantRight wants either an error or a field that is right.
func wantRight(t *testing.T, what string, f api.Field, e api.Errno) {
	t.Helper()
	if e != api.OK {
		wantNoField(t, what, f, e, e)
	} else if e := field.Check(f); e != api.OK {
		t.Errorf("%s: the result has the error %d", what, e)
	}
}

// wantRightList wants a list only where there is no error.
func wantRightList[T any](t *testing.T, what string, l []T, e api.Errno) {
	t.Helper()
	if e != api.OK {
		wantNoList(t, what, l, e, e)
	}
}

// G1, G3, G7: no function panics, whatever its integers are.
func TestWildInts(t *testing.T) {
	f := bowl(5, 0)
	for _, a := range wildInts {
		for _, b := range wildInts {
			for _, r := range []api.Region{region(a, b, 2, 1), region(0, 0, a, b)} {
				wantWildRegion(t, r, a, b)
			}
			river := api.River{Points: []api.Point{at(a, b), at(b, a)}, Amount: a, Order: b, Into: -1}
			water.PrintRivers([]api.River{river, {Points: []api.Point{at(a, b)}, Amount: 1, Order: 1, Into: a}})
			g, e := water.Bed(f, []api.River{{Points: []api.Point{at(a, b)}, Order: 1, Into: -1}}, slices.Repeat([]int{b}, 9), 1)
			wantRight(t, "Bed", g, e)
			water.Depth(api.Carving{Rate: 1, Most: 1, Steps: a}, b, 1)
		}
		g, e := water.Carve(f, api.Carving{Rate: 1, Most: 1, Steps: a})
		wantRight(t, "Carve", g, e)
		p, e := water.Shore(f, a)
		wantRightList(t, "Shore", p, e)
	}
}

// wantWildRegion calls all that take a region, with lists of two numbers.
func wantWildRegion(t *testing.T, r api.Region, a, b int) {
	t.Helper()
	for _, l := range [][]int{nil, {a, b}, {-1, -1}, {0, -1}, {0, 4}} {
		water.CheckDirs(r, l)
		water.Next(r, l, at(a, b))
		amounts, e := water.Gather(r, l, []int{a, b})
		wantRightList(t, "Gather", amounts, e)
		numbers, mouths, e := water.Basins(r, l)
		wantRightList(t, "Basins", numbers, e)
		wantRightList(t, "Basins", mouths, e)
		far, e := water.Far(r, l)
		wantRightList(t, "Far", far, e)
		rivers, e := water.Rivers(r, l, []int{a, b}, a)
		wantRightList(t, "Rivers", rivers, e)
	}
	rain, e := water.Shower(r, 7, a)
	wantRightList(t, "Shower", rain, e)
	for _, m := range makers() {
		g, e := m.make(api.Field{Region: r, V: []float32{1, 2}})
		wantRight(t, m.name, g, e)
	}
}

// G1, G3, G7: no function panics, whatever its singles are.
func TestWildSingles(t *testing.T) {
	for _, a := range wildSingles {
		f := bowl(0, -1)
		g, e := water.Filled(f, a)
		wantRight(t, "Filled", g, e)
		g, e = water.Breach(f, a)
		wantRight(t, "Breach", g, e)
		g, e = water.Bed(f, []api.River{{Points: []api.Point{at(0, 0)}, Order: 1, Into: -1}}, slices.Repeat([]int{1}, 9), a)
		wantRight(t, "Bed", g, e)
		lakes, e := water.Lakes(f, a)
		wantRightList(t, "Lakes", lakes, e)
		for _, b := range wildSingles {
			f = bowl(a, b)
			for _, m := range makers() {
				g, e = m.make(f)
				wantRight(t, m.name, g, e)
			}
			for _, l := range listers() {
				if many, e := l.make(f); e != api.OK && many > 0 {
					t.Errorf("%s: a list with the error %d", l.name, e)
				}
			}
			g, _, e = water.Melt(row(a), row(b), a)
			wantRight(t, "Melt", g, e)
			for _, c := range wildSingles {
				g, e = water.Carve(bowl(top, -top), api.Carving{Rate: a, Least: b, Most: c, Steps: 2})
				wantRight(t, "Carve", g, e)
				d, e := water.Depth(api.Carving{Rate: 1, Least: a, Most: b}, 1<<40, c)
				if !(d >= 0 && d <= top) || e != api.OK && d != 0 {
					t.Error("Depth", d, e)
				}
				g, e = water.Snow(bowl(top, 0), api.Snow{Line: a, Rate: b, Most: c, Hold: a})
				wantRight(t, "Snow", g, e)
				g, e = water.Snow(row(a, b), api.Snow{Rate: c, Most: b, Hold: top})
				wantRight(t, "Snow", g, e)
			}
		}
	}
}

// P70 to P85: all functions return the errors of a field, and results of its region.
func TestFieldsFirst(t *testing.T) {
	n := &numbers{state: 29}
	for _, m := range makers() {
		for _, s := range badFields() {
			g, e := m.make(s.f)
			wantNoField(t, m.name, g, e, s.want)
		}
		for _, f := range n.fields(1000) {
			g, e := m.make(f)
			wantRight(t, m.name, g, e)
			if e != api.OK || g.Region != f.Region {
				t.Errorf("%s of %v has %v, error %d", m.name, f.Region, g.Region, e)
			}
		}
	}
	for _, l := range listers() {
		for _, s := range badFields() {
			if many, e := l.make(s.f); many > 0 || e != s.want {
				t.Errorf("%s: got %d elements, error %d; want error %d", l.name, many, e, s.want)
			}
		}
	}
}

// G2: arguments are neither modified nor retained, results share no memory, and calls leave no state.
func TestFieldsAreLeftAlone(t *testing.T) {
	n := &numbers{state: 30}
	for _, m := range makers() {
		f := n.field(region(-4, -5, 9, 11), n.single)
		f.V = append(f.V, 91, 92, 93)[:len(f.V)]
		room := f.V[:len(f.V)+3]
		kept := slices.Clone(room)
		first, e := m.make(f)
		if e != api.OK {
			t.Fatal(m.name, e)
		}
		want := api.Field{Region: first.Region, V: slices.Clone(first.V)}
		scribble(first.V, -12345)
		second, e := m.make(f)
		wantField(t, m.name+" once more", second, e, want)
		if !slices.Equal(room, kept) {
			t.Errorf("%s changes its field", m.name)
		}
		scribble(room, -12345)
		wantField(t, m.name+" with another field afterwards", second, e, want)
	}
	for _, l := range listers() {
		f := n.field(region(-4, -5, 9, 11), n.single)
		kept := slices.Clone(f.V)
		if _, e := l.make(f); e != api.OK || !slices.Equal(f.V, kept) {
			t.Errorf("%s changes its field", l.name)
		}
	}
}

func scribble[T any](l []T, v T) {
	l = l[:cap(l)]
	for i := range l {
		l[i] = v
	}
}

// wantFresh wants a function to leave the list alone from which it makes another one, and to make that one anew.
func wantFresh[A, R comparable](t *testing.T, what string, l []A, other A, none R, of func(l []A) []R) {
	t.Helper()
	l = append(slices.Clone(l), other, other)[:len(l)]
	kept := slices.Clone(l[:len(l)+2])
	first := of(l)
	want := slices.Clone(first)
	scribble(first, none)
	second := of(l)
	if !slices.Equal(l[:len(l)+2], kept) {
		t.Errorf("%s changes its list", what)
	}
	scribble(l, other)
	if len(want) == 0 || !slices.Equal(second, want) {
		t.Errorf("%s: got %v, want %v", what, second, want)
	}
}

// G2: the same of lists.
func TestListsAreLeftAlone(t *testing.T) {
	n := &numbers{state: 31}
	r := region(-4, -5, 9, 11)
	dirs := n.downhill(r)
	rain := n.list(99, func() int { return n.between(0, 9) })
	amounts := gathered(r, dirs, rain)
	f := n.field(r, n.single)
	wantFresh(t, "Gather", dirs, 99, -1, func(l []int) []int { g, _ := water.Gather(r, l, rain); return g })
	wantFresh(t, "Gather", rain, -1, -1, func(l []int) []int { g, _ := water.Gather(r, dirs, l); return g })
	wantFresh(t, "Basins", dirs, 99, -1, func(l []int) []int { g, _, _ := water.Basins(r, l); return g })
	wantFresh(t, "Basins", dirs, 99, at(9, 9), func(l []int) []api.Point { _, g, _ := water.Basins(r, l); return g })
	wantFresh(t, "Far", dirs, 99, -1, func(l []int) []float32 { g, _ := water.Far(r, l); return g })
	wantFresh(t, "Rivers", dirs, 99, at(9, 9), func(l []int) []api.Point { g, _ := water.Rivers(r, l, amounts, 1); return g[0].Points })
	wantFresh(t, "Rivers", amounts, -1, at(9, 9), func(l []int) []api.Point { g, _ := water.Rivers(r, dirs, l, 1); return g[0].Points })
	wantFresh(t, "Wet", amounts, -1, -1, func(l []int) []float32 { g, _ := water.Wet(f, l); return g.V })
	wantFresh(t, "Bed", amounts, -1, -1, func(l []int) []float32 { g, _ := water.Bed(f, nil, l, 1); return g.V })
	wantFresh(t, "Melt", amounts, -1, -1, func(l []int) []int {
		snow := api.Field{Region: r}
		for _, amount := range l {
			snow.V = append(snow.V, float32(amount))
		}
		_, g, _ := water.Melt(f, snow, 1)
		return g
	})
	river := []api.Point{at(0, 0), at(1, 0), at(2, 1), at(2, 2)}
	wantFresh(t, "Bed", river, at(99, 99), -1, func(l []api.Point) []float32 {
		g, _ := water.Bed(f, []api.River{{Points: l, Order: 1, Into: 0}}, amounts, 1)
		return g.V
	})
	wantFresh(t, "PrintRivers", river, at(99, 99), 0, func(l []api.Point) []byte {
		text, _ := water.PrintRivers([]api.River{{Points: l, Order: 1, Into: 0}})
		return []byte(text)
	})
}

// G2: the rivers of a list share no memory with each other.
func TestRiversShareNothing(t *testing.T) {
	r, dirs, amounts := tree()
	want, _ := water.Rivers(r, dirs, amounts, 1)
	text, _ := water.PrintRivers(want)
	made, _ := water.Rivers(r, dirs, amounts, 1)
	read, _, _ := water.ParseRivers(text)
	for _, l := range [][]api.River{made, read} {
		for i := range l {
			points := slices.Clone(l[i].Points)
			scribble(l[i].Points, at(1<<40, 0))
			for k := range l {
				if k != i && !slices.Equal(l[k].Points, want[k].Points) {
					t.Error("two rivers share their points", i, k)
				}
			}
			copy(l[i].Points, points)
		}
	}
}

// P87: the least surface with a slope lies over that without one.
func TestSlopesLiftFilledGround(t *testing.T) {
	n := &numbers{state: 32}
	for _, f := range n.fields(top / 2) {
		low, _ := water.Filled(f, 0)
		high, e := water.Filled(f, 0.5)
		if e != api.OK {
			t.Fatal(e)
		}
		for i, v := range low.V {
			if high.V[i] < v {
				t.Errorf("Filled: %v lies below %v", high.V[i], v)
			}
		}
	}
}
