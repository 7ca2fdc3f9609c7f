package road_test

import (
	"math"
	"slices"
	"strings"
	"testing"

	"tarnfell/api"
	"tarnfell/field"
	"tarnfell/road"
)

var (
	wildInts    = []int{0, 1, -1, 2, 3, 7, 12, 13, 24, 512, api.MaxPlace, -api.MaxPlace, 1 << 30, 1<<32 + 1, 1 << 40, -1 << 62, math.MaxInt, math.MinInt}
	wildSingles = []float32{0, minusZero, 1, -0.5, 0.125, tiny, 64, 1024, top, -top, beyond, math.MaxFloat32, -math.MaxFloat32, inf, -inf, nan}
)

// wantRightList wants a list only where there is no error.
func wantRightList[T any](t *testing.T, what string, l []T, e api.Errno) {
	t.Helper()
	if e != api.OK {
		wantNoList(t, what, l, e, e)
	}
}

// wantRight wants either an error or a field that is right.
func wantRight(t *testing.T, what string, f api.Field, e api.Errno) {
	t.Helper()
	if e != api.OK {
		wantNoField(t, what, f, e, e)
	} else if e := field.Check(f); e != api.OK {
		t.Errorf("%s: the result has the error %d", what, e)
	}
}

// wantWild calls functions that tell whether they have a result.
func wantWild(t *testing.T, name string, some bool, e api.Errno) {
	t.Helper()
	if some && e != api.OK {
		t.Errorf("%s: a result with the error %d", name, e)
	}
}

// G1, G3: no function panics, whatever its integers are.
func TestWildInts(t *testing.T) {
	f := row(5, 0, 0, 5)
	for _, a := range wildInts {
		for _, b := range wildInts {
			for _, r := range []api.Region{region(a, b, 2, 1), region(0, 0, a, b)} {
				g := api.Field{Region: r, V: []float32{1, 2}}
				for _, c := range allRuled() {
					some, e := c.call(g, plain())
					wantWild(t, c.name, some, e)
					some, e = c.call(row(1, 2), api.RoadRules{Bridge: 1, Span: a, Costly: []api.Field{g}})
					wantWild(t, c.name, some, e)
				}
				for _, w := range walkersIn(g) {
					some, e := w.call([]api.Point{at(a, b)})
					wantWild(t, w.name, some, e)
				}
			}
			wantWildPlaces(t, f, []api.Point{at(a, b), at(b, a)})
			wantWildPlaces(t, f, []api.Point{at(a, b), at(a, 0), at(0, b)})
			wantWildPlaces(t, f, []api.Point{at(0, 0), at(a, b)})
			trips, is, e := road.Trips(3, []api.Road{{From: a, To: b}}, a)
			wantRightList(t, "Trips", trips, e)
			wantRightList(t, "Trips", is, e)
			trips, _, e = road.Trips(a, []api.Road{{To: 1}}, b)
			wantRightList(t, "Trips", trips, e)
			g, e := road.Build(f, places(0, 0), []float32{1}, a, b)
			wantRight(t, "Build", g, e)
			roads, e := road.Shortcuts(f, plain(), places(0, 0, 3, 0), []api.Road{{From: a, To: b}}, 1)
			wantRightList(t, "Shortcuts", roads, e)
		}
		bed, e := road.Bed(f, places(0, 0, 1, 0), a, 1)
		wantRightList(t, "Bed", bed, e)
		spots, e := road.Rounded(places(0, 0, 1, 0), a)
		wantRightList(t, "Rounded", spots, e)
	}
}

// wantWildPlaces calls all that take places.
func wantWildPlaces(t *testing.T, f api.Field, l []api.Point) {
	t.Helper()
	s := api.RoadRules{Grade: 2, Bridge: 1, Span: 12}
	for _, w := range slices.Concat(walkers(), walkersIn(f)) {
		some, e := w.call(l)
		wantWild(t, w.name, some, e)
	}
	cost, is, e := road.StepCost(f, s, l[0], l[1])
	wantWild(t, "StepCost", cost != 0 || is, e)
	prices, _, e := road.Costs(f, s, l[0])
	wantRightList(t, "Costs", prices, e)
	way, _, e := road.Way(f, s, l[0], l[1])
	wantRightList(t, "Way", way, e)
	way, e = road.Within(f, s, l[1], 5)
	wantRightList(t, "Within", way, e)
	price, e := road.Price(f, s, l)
	wantWild(t, "Price", price != 0, e)
	way, e = road.Straight(l)
	wantRightList(t, "Straight", way, e)
	spots, e := road.Rounded(l, 6)
	wantRightList(t, "Rounded", spots, e)
	roads, e := road.Connect(f, s, l)
	wantRightList(t, "Connect", roads, e)
}

// G1, G3, G7: no function panics, whatever its singles are, and no result has a NaN.
func TestWildSingles(t *testing.T) {
	way := places(0, 0, 1, 0, 2, 0)
	for _, a := range wildSingles {
		bed, e := road.Bed(row(0, 9, 1), way, api.BedMean, a)
		wantRightList(t, "Bed", bed, e)
		near, e := road.Within(row(0, 0, 1), plain(), at(0, 0), a)
		wantRightList(t, "Within", near, e)
		roads, e := road.Shortcuts(row(0, 0, 0), plain(), way, nil, a)
		wantRightList(t, "Shortcuts", roads, e)
		for _, b := range wildSingles {
			for _, c := range wildSingles {
				wantWildField(t, row(a, b, c), way)
				for _, s := range []api.RoadRules{{Grade: a, Weight: b, Bridge: c, Span: 2}, {Grade: 1024, Weight: a, Bridge: 1, Dear: b, Span: 2, Costly: []api.Field{row(0, c, 1)}}} {
					for _, r := range allRuled() {
						some, e := r.call(row(top, -top, top), s)
						wantWild(t, r.name, some, e)
					}
					prices, _, e := road.Costs(row(1, 0, 900), s, at(0, 0))
					wantRightList(t, "Costs", prices, e)
					if slices.ContainsFunc(prices, func(v float32) bool { return !(v >= 0 && v <= math.MaxFloat32) }) {
						t.Error("Costs", prices)
					}
				}
				trips, _, e := road.Trips(4, []api.Road{{From: 0, To: 1, Price: a}, {From: 1, To: 2, Price: b}, {From: 2, To: 3, Price: c}}, 0)
				wantRightList(t, "Trips", trips, e)
				if slices.ContainsFunc(trips, func(v float32) bool { return !(v >= 0) }) {
					t.Error("Trips", trips)
				}
			}
		}
	}
}

// wantWildField calls all that take a field and a way.
func wantWildField(t *testing.T, f api.Field, way []api.Point) {
	t.Helper()
	for _, w := range walkersIn(f) {
		some, e := w.call(way)
		wantWild(t, w.name, some, e)
	}
	grades, e := road.Grades(f, way)
	wantRightList(t, "Grades", grades, e)
	for how := api.BedFill; how <= api.BedMean; how++ {
		bed, e := road.Bed(f, way, how, 0.5)
		wantRightList(t, "Bed", bed, e)
		if slices.ContainsFunc(bed, func(v float32) bool { return !(v >= -top && v <= top) }) {
			t.Error("Bed", bed)
		}
	}
	g, e := road.Build(row(top, -top, 3), way, f.V, 0, 2)
	wantRight(t, "Build", g, e)
	g, e = road.Build(f, way[:1], []float32{top}, 1, 20)
	wantRight(t, "Build", g, e)
	cut, filled, e := road.Earth(f, row(0, top, -top))
	wantWild(t, "Earth", cut != 0 || filled != 0, e)
}

// G1: what is read ends, whatever the text is.
func TestWildTexts(t *testing.T) {
	n := &numbers{state: 25}
	for range 20000 {
		var text strings.Builder
		text.WriteString([2]string{"", "0 0 "}[n.between(0, 1)])
		for range n.between(0, 9) {
			text.WriteByte("0123 x-\n\xff89"[n.between(0, 10)])
		}
		way, e := road.Parse(text.String())
		wantRightList(t, "Parse", way, e)
		if e == api.OK {
			back, e := road.Print(way)
			wantText(t, "Print", back, e, text.String())
		}
	}
}

func scribble[T any](l []T, v T) {
	l = l[:cap(l)]
	for i := range l {
		l[i] = v
	}
}

// wantFresh wants a function to leave the list alone from which it makes another one, and to make that one anew.
func wantFresh[A, R comparable](t *testing.T, what string, l []A, other A, none R, of func(l []A) []R) {
	t.Helper()
	l = append(slices.Clone(l), other, other)[:len(l)]
	kept := slices.Clone(l[:len(l)+2])
	first := of(l)
	want := slices.Clone(first)
	scribble(first, none)
	second := of(l)
	if !slices.Equal(l[:len(l)+2], kept) {
		t.Errorf("%s changes its list", what)
	}
	scribble(l, other)
	if len(want) == 0 || !slices.Equal(second, want) {
		t.Errorf("%s: got %v, want %v", what, second, want)
	}
}

// G2: arguments are neither modified nor retained, results share no memory, and calls leave no state.
func TestFieldsAreLeftAlone(t *testing.T) {
	n := &numbers{state: 26}
	r := region(-4, -5, 9, 11)
	heights := n.field(r, n.single).V
	costly := n.field(r, n.share).V
	way := n.way(r, 30, 3)
	from, to := at(-4, -5), at(3, 3)
	sites := places(-4, -5, 3, 3, -2, 4)
	none := at(99, 99)
	rules := func(l []float32) api.RoadRules {
		return api.RoadRules{Grade: 1, Weight: 2, Bridge: 2, Span: 4, Costly: []api.Field{{Region: r, V: l}}}
	}
	of := func(l []float32) api.Field { return api.Field{Region: r, V: l} }
	f, s := of(heights), rules(costly)
	for _, take := range []func(l []float32) (api.Field, api.RoadRules){
		func(l []float32) (api.Field, api.RoadRules) { return of(l), s },
		func(l []float32) (api.Field, api.RoadRules) { return f, rules(l) },
	} {
		for _, l := range [][]float32{heights, costly} {
			wantFresh(t, "Costs", l, -99, -99, func(l []float32) []float32 { f, s := take(l); v, _, _ := road.Costs(f, s, from); return append(v, 1) })
			wantFresh(t, "Costs", l, -99, false, func(l []float32) []bool { f, s := take(l); _, v, _ := road.Costs(f, s, from); return append(v, true) })
			wantFresh(t, "Way", l, -99, none, func(l []float32) []api.Point {
				f, s := take(l)
				v, _, _ := road.Way(f, s, from, to)
				return append(v, none)
			})
			wantFresh(t, "Within", l, -99, none, func(l []float32) []api.Point {
				f, s := take(l)
				v, _ := road.Within(f, s, from, 9)
				return append(v, none)
			})
			wantFresh(t, "Connect", l, -99, none, func(l []float32) []api.Point {
				f, s := take(l)
				v, _ := road.Connect(f, s, sites)
				return append(firstWay(v), none)
			})
			wantFresh(t, "Shortcuts", l, -99, none, func(l []float32) []api.Point {
				f, s := take(l)
				v, _ := road.Shortcuts(f, s, sites, nil, 1)
				return append(firstWay(v), none)
			})
		}
	}
	wantFresh(t, "Grades", heights, -99, -99, func(l []float32) []float32 { v, _ := road.Grades(of(l), way); return v })
	for how := api.BedFill; how <= api.BedMean; how++ {
		wantFresh(t, "Bed", heights, -99, -99, func(l []float32) []float32 { v, _ := road.Bed(of(l), way, how, 0.1); return v })
	}
	wantFresh(t, "Build", heights, -99, -99, func(l []float32) []float32 {
		v, _ := road.Build(of(l), way, make([]float32, len(way)), 1, 2)
		return v.V
	})
	wantFresh(t, "Build", make([]float32, len(way)), -99, -99, func(l []float32) []float32 { v, _ := road.Build(f, way, l, 1, 2); return v.V })
	wantFresh(t, "Earth", heights, -99, -99, func(l []float32) []float32 {
		cut, filled, _ := road.Earth(of(l), of(costly))
		return []float32{cut, filled}
	})
	wantFresh(t, "Earth", heights, -99, -99, func(l []float32) []float32 {
		cut, filled, _ := road.Earth(of(costly), of(l))
		return []float32{cut, filled}
	})
}

func firstWay(l []api.Road) []api.Point {
	if len(l) == 0 {
		return nil
	}
	return l[0].Way
}

// G2: the same of lists.
func TestListsAreLeftAlone(t *testing.T) {
	n := &numbers{state: 27}
	r := region(-4, -5, 9, 11)
	f := n.field(r, n.single)
	s := api.RoadRules{Grade: 2, Bridge: 1, Span: 3}
	other := at(99, 99)
	way := onGround(n.way(r, 30, 3))
	bed := make([]float32, len(way))
	text := func(text string, _ api.Errno) []byte { return []byte(text) }
	wantFresh(t, "Price", way, other, -1, func(l []api.Point) []float32 { v, _ := road.Price(f, s, l); return []float32{v} })
	wantFresh(t, "Bridges", winding(), other, -1, func(l []api.Point) []int { v, _ := road.Bridges(l); return v })
	wantFresh(t, "Length", way, other, -1, func(l []api.Point) []float32 { v, _ := road.Length(l); return []float32{v} })
	wantFresh(t, "Grades", way, other, -1, func(l []api.Point) []float32 { v, _ := road.Grades(f, l); return v })
	wantFresh(t, "Bed", way, other, -1, func(l []api.Point) []float32 { v, _ := road.Bed(f, l, api.BedMean, 1); return v })
	wantFresh(t, "Build", way, other, -1, func(l []api.Point) []float32 { v, _ := road.Build(f, l, bed, 1, 1); return v.V })
	wantFresh(t, "Corners", way, other, other, func(l []api.Point) []api.Point { v, _ := road.Corners(l); return v })
	wantFresh(t, "Straight", way, other, other, func(l []api.Point) []api.Point { v, _ := road.Straight(l); return v })
	for k := range 3 {
		wantFresh(t, "Rounded", way, other, api.Spot{X: -1}, func(l []api.Point) []api.Spot { v, _ := road.Rounded(l, k); return v })
		wantFresh(t, "Rounded", way[:1], other, api.Spot{X: -1}, func(l []api.Point) []api.Spot { v, _ := road.Rounded(l, k); return v })
	}
	wantFresh(t, "Print", way, other, 0, func(l []api.Point) []byte { return text(road.Print(l)) })
	sites := places(-4, -5, 3, 3, -2, 4)
	wantFresh(t, "Connect", sites, other, other, func(l []api.Point) []api.Point { v, _ := road.Connect(f, s, l); return firstWay(v) })
	wantFresh(t, "Shortcuts", sites, other, other, func(l []api.Point) []api.Point { v, _ := road.Shortcuts(f, s, l, nil, 1); return firstWay(v) })
}

// G2: roads are neither changed nor kept, nor is what lies behind them.
func TestRoadsAreLeftAlone(t *testing.T) {
	f, sites := flat(region(0, 0, 3, 3), 1), places(0, 0, 2, 0, 2, 2, 0, 2)
	l := append(make([]api.Road, 0, 9), api.Road{From: 0, To: 2, Way: places(5, 5), Price: 4}, api.Road{From: 0, To: 1, Way: places(6, 6), Price: 4})
	kept := slices.Clone(l[:9])
	added, e := road.Shortcuts(f, plain(), sites, l, 1)
	if e != api.OK || len(added) != 6 || !sameRoads(l[:9], kept) {
		t.Error("Shortcuts changes its roads", l[:9], e)
	}
	trips, _, e := road.Trips(4, l, 0)
	wantSingles(t, "Trips", trips, e, 0, 4, 4, 0)
	if !sameRoads(l[:9], kept) {
		t.Error("Trips changes its roads", l[:9])
	}
	scribble(trips, -1)
	trips, _, e = road.Trips(4, l, 0)
	wantSingles(t, "Trips", trips, e, 0, 4, 4, 0)
}

// G2: the roads of a net share no memory with each other.
func TestRoadsShareNothing(t *testing.T) {
	f, sites := flat(region(0, 0, 9, 9), 1), places(0, 0, 8, 0, 8, 8, 0, 8, 4, 4)
	for _, make := range []func() ([]api.Road, api.Errno){
		func() ([]api.Road, api.Errno) { return road.Connect(f, plain(), sites) },
		func() ([]api.Road, api.Errno) { return road.Shortcuts(f, plain(), sites, nil, 1) },
	} {
		want, _ := make()
		l, e := make()
		wantRoads(t, "a net", l, e, want...)
		for i := range l {
			way := slices.Clone(l[i].Way)
			scribble(l[i].Way, at(99, 99))
			for k := range l {
				if k != i && !slices.Equal(l[k].Way, want[k].Way) {
					t.Error("two roads share their places", i, k)
				}
			}
			copy(l[i].Way, way)
		}
	}
}
