package road_test

import (
	"math"
	"slices"
	"testing"

	"tarnfell/api"
	"tarnfell/field"
	"tarnfell/road"
)

// P105, G6: beds of ways by chance, as the formulas say.
func TestBed(t *testing.T) {
	n := &numbers{state: 14}
	for _, f := range n.fields(top) {
		way := n.way(f.Region, 30, 12)
		for _, grade := range []float32{0, minusZero, tiny, 0.1, 1, 77.7, 1024, n.share()} {
			for how := api.BedFill; how <= api.BedMean; how++ {
				l, e := road.Bed(f, way, how, grade)
				wantSingles(t, "Bed", l, e, bedOf(f, way, how, grade)...)
			}
		}
	}
}

// P105: known beds.
func TestKnownBeds(t *testing.T) {
	f := row(0, 4, 0, 9, 1)
	over := places(0, 0, 1, 0, 3, 0, 4, 0)
	for _, s := range []struct {
		way  []api.Point
		how  int
		want []float32
	}{
		{places(2, 0), api.BedFill, []float32{0}}, {places(1, 0), api.BedCut, []float32{4}}, {places(1, 0), api.BedMean, []float32{4}},
		{places(0, 0, 1, 0, 2, 0), api.BedFill, []float32{3, 4, 3}},
		{places(0, 0, 1, 0, 2, 0), api.BedCut, []float32{0, 1, 0}},
		{places(0, 0, 1, 0, 2, 0), api.BedMean, []float32{1.5, 2.5, 1.5}},
		// The drop of a bridge is that of its length.
		{over, api.BedFill, []float32{6, 7, 9, 8}}, {over, api.BedCut, []float32{0, 1, 2, 1}}, {over, api.BedMean, []float32{3, 4, 5.5, 4.5}},
		// A place that the way comes to twice has two heights.
		{places(1, 0, 2, 0, 1, 0, 0, 0, 1, 0), api.BedCut, []float32{1, 0, 1, 0, 1}},
	} {
		l, e := road.Bed(f, s.way, s.how, 1)
		wantSingles(t, "Bed", l, e, s.want...)
	}
	l, e := road.Bed(of(0, 0, 2, 2, 0, 1, 1, 5), places(0, 0, 1, 1), api.BedFill, 2)
	wantSingles(t, "Bed", l, e, minus(5, times(2, root2)), 5)
	l, e = road.Bed(row(0, minusZero, 0), places(0, 0, 1, 0, 2, 0), api.BedFill, 0)
	wantSingles(t, "Bed", l, e, 0, minusZero, 0)
	l, e = road.Bed(row(minusZero, minusZero), places(0, 0, 1, 0), api.BedMean, 0)
	wantSingles(t, "Bed", l, e, minusZero, minusZero)
}

// P105: BedFill is nowhere below the ground, BedCut nowhere above it, and none is steeper than grade, as far as rounding permits.
func TestBedsAreNotSteep(t *testing.T) {
	n := &numbers{state: 15}
	for _, f := range n.fields(100) {
		way := n.way(f.Region, 30, 12)
		ground := heightsOn(f, way)
		for _, grade := range []float32{0.125, 0.7} {
			for how := api.BedFill; how <= api.BedMean; how++ {
				l, e := road.Bed(f, way, how, grade)
				wantError(t, "Bed", e, api.OK)
				for i, v := range l {
					if how == api.BedFill && v < ground[i] || how == api.BedCut && v > ground[i] {
						t.Error("the bed lies on the other side", how, v, ground[i])
					}
					if i > 0 && math.Abs(float64(v)-float64(l[i-1])) > float64(grade)*float64(lengthOf(way[i-1], way[i]))+0.0001 {
						t.Error("the bed is too steep", how, l[i-1], v)
					}
				}
			}
		}
	}
}

// P105: the errors of Bed, and their order.
func TestBedErrors(t *testing.T) {
	f, way := row(0, 4, 0), places(0, 0, 1, 0)
	for _, how := range append(outside(api.BedFill, api.BedMean), 0) {
		for _, grade := range []float32{1, nan, beyond} {
			l, e := road.Bed(f, way, how, grade)
			wantNoList(t, "Bed", l, e, api.ErrKind)
		}
		l, e := road.Bed(f, places(0, 0, 9, 0), how, nan)
		wantNoList(t, "Bed", l, e, api.ErrPlace)
		l, e = road.Bed(row(inf), nil, how, nan)
		wantNoList(t, "Bed", l, e, api.ErrForm)
	}
	for how := api.BedFill; how <= api.BedMean; how++ {
		for _, s := range badSingles(0, 1024) {
			l, e := road.Bed(f, way, how, s.v)
			wantNoList(t, "Bed", l, e, s.want)
			l, e = road.Bed(f, nil, how, s.v)
			wantNoList(t, "Bed", l, e, api.ErrEmpty)
		}
	}
}

// P106, G6: ground for ways by chance, as the formulas say.
func TestBuild(t *testing.T) {
	n := &numbers{state: 16}
	for _, f := range n.fields(top) {
		for _, many := range []int{0, 3, 30} {
			way := n.way(f.Region, many, 12)
			bed := make([]float32, len(way))
			for i := range bed {
				bed[i] = n.single() * 9
			}
			for _, size := range [][2]int{{0, 1}, {0, 4}, {1, 3}, {2, 2}, {5, 7}, {20, 20}} {
				g, e := road.Build(f, way, bed, size[0], size[1])
				wantField(t, "Build", g, e, builtOn(f, way, bed, size[0], size[1]))
			}
		}
	}
}

// P106: known ground: of several places that are equally near the first one counts, also of one that the way comes to twice.
func TestKnownGround(t *testing.T) {
	ground := row(1, 1, 1, 1, 1, 1, 1)
	for _, s := range []struct {
		way        []api.Point
		bed        []float32
		wide, soft int
		want       []float32
	}{
		{places(3, 0), []float32{9}, 0, 1, []float32{1, 1, 1, 9, 1, 1, 1}},
		{places(3, 0), []float32{9}, 1, 1, []float32{1, 1, 9, 9, 9, 1, 1}},
		{places(3, 0), []float32{9}, 1, 2, []float32{1, 5, 9, 9, 9, 5, 1}},
		{places(3, 0), []float32{9}, 20, 1, []float32{9, 9, 9, 9, 9, 9, 9}},
		{places(1, 0, 5, 0), []float32{5, 9}, 2, 1, []float32{5, 5, 5, 5, 9, 9, 9}},
		{places(5, 0, 1, 0), []float32{9, 5}, 2, 1, []float32{5, 5, 5, 9, 9, 9, 9}},
		{places(3, 0, 4, 0, 3, 0), []float32{7, 8, 9}, 0, 1, []float32{1, 1, 1, 7, 8, 1, 1}},
		// No place of the way is below the bridge.
		{places(0, 0, 6, 0), []float32{3, 4}, 1, 1, []float32{3, 3, 1, 1, 1, 4, 4}},
		{places(3, 0), []float32{minusZero}, 0, 1, []float32{1, 1, 1, minusZero, 1, 1, 1}},
	} {
		g, e := road.Build(ground, s.way, s.bed, s.wide, s.soft)
		wantField(t, "Build", g, e, row(s.want...))
		g, e = road.Build(api.Field{Region: region(0, 0, 1, 7), V: ground.V}, turned(s.way), s.bed, s.wide, s.soft)
		wantField(t, "Build", g, e, api.Field{Region: region(0, 0, 1, 7), V: s.want})
	}
	// The cells (4, 0) and (0, 4) are as far from the place (0, 0) as (4, 4) from none: distances are those in the plane.
	f := flat(region(0, 0, 6, 6), 1)
	g, e := road.Build(f, places(0, 0), []float32{2}, 4, 1)
	wantError(t, "Build", e, api.OK)
	for p, want := range map[api.Point]float32{at(4, 0): 2, at(0, 4): 2, at(4, 1): plus(2, times(-1, eased(minus(root(17), 4)))), at(3, 2): 2, at(4, 4): 1, at(3, 4): 1} {
		wantSingle(t, "Build", valueAt(g, p), e, want)
	}
}

func eased(t float32) float32 { return times(times(t, t), minus(3, times(2, t))) }

// turned has x and y the other way around.
func turned(way []api.Point) []api.Point {
	var l []api.Point
	for _, p := range way {
		l = append(l, at(p.Y, p.X))
	}
	return l
}

// P106: two rows of places, one after the other, one of which is nearer, but later.
func TestBuildLooksAtAllRows(t *testing.T) {
	n := &numbers{state: 17}
	f := n.field(region(-30, 11, 41, 37), n.single)
	for range 10 {
		way := onGround(n.way(f.Region, 25, 12))
		bed := make([]float32, len(way))
		for i := range bed {
			bed[i] = float32(i)
		}
		wide, soft := n.between(0, 20), n.between(1, 20)
		g, e := road.Build(f, way, bed, wide, soft)
		wantField(t, "Build", g, e, builtOn(f, way, bed, wide, soft))
	}
}

// P106: the errors of Build, and their order.
func TestBuildErrors(t *testing.T) {
	f, way := row(0, 4, 0), places(0, 0, 1, 0)
	good := []float32{1, 2}
	for _, s := range []struct {
		f          api.Field
		way        []api.Point
		bed        []float32
		wide, soft int
		want       api.Errno
	}{
		{row(beyond), nil, nil, -1, 0, api.ErrRange},
		{f, nil, []float32{nan}, -1, 0, api.ErrEmpty},
		{f, places(0, 0, 9, 0), []float32{nan}, -1, 0, api.ErrPlace},
		{f, places(0, 0, 0, 0), []float32{nan}, -1, 0, api.ErrForm},
		{f, way, nil, -1, 0, api.ErrForm},
		{f, way, []float32{beyond}, -1, 0, api.ErrForm},
		{f, way, []float32{1, 2, beyond}, -1, 0, api.ErrForm},
		{f, way, []float32{beyond, nan}, -1, 0, api.ErrForm},
		{f, way, []float32{1, -inf}, 0, 1, api.ErrForm},
		{f, way, []float32{beyond, 1}, 0, 1, api.ErrRange},
		{f, way, []float32{1, -beyond}, 0, 1, api.ErrRange},
		{f, way, good, 20, 20, api.OK},
		{f, way, []float32{top, -top}, 0, 1, api.OK},
	} {
		g, e := road.Build(s.f, s.way, s.bed, s.wide, s.soft)
		if s.want != api.OK {
			wantNoField(t, "Build", g, e, s.want)
		} else if e != api.OK || g.Region != s.f.Region {
			t.Error("Build", g, e)
		}
	}
	for _, n := range outside(0, 20) {
		g, e := road.Build(f, way, good, n, 1)
		wantNoField(t, "Build", g, e, api.ErrRange)
	}
	for _, n := range append(outside(1, 20), 1<<32+1) {
		g, e := road.Build(f, way, good, 0, n)
		wantNoField(t, "Build", g, e, api.ErrRange)
	}
}

// P106, G6: the sums of Earth are in order.
func TestEarth(t *testing.T) {
	cut, filled, e := road.Earth(row(0, 4, 1, 1), row(2, 1, 1, 1.5))
	wantSingle(t, "Earth", cut, e, 3)
	wantSingle(t, "Earth", filled, e, 2.5)
	cut, filled, e = road.Earth(row(0, minusZero), row(minusZero, 0))
	wantSingle(t, "Earth", cut, e, 0)
	wantSingle(t, "Earth", filled, e, 0)
	n := &numbers{state: 18}
	for _, f := range n.fields(top) {
		g := n.field(f.Region, func() float32 { return n.height(top) })
		var less, more float32
		for i, v := range f.V {
			if g.V[i] < v {
				less = plus(less, minus(v, g.V[i]))
			}
			if g.V[i] > v {
				more = plus(more, minus(g.V[i], v))
			}
		}
		cut, filled, e = road.Earth(f, g)
		wantSingle(t, "Earth", cut, e, less)
		wantSingle(t, "Earth", filled, e, more)
	}
	// Sums may be no heights.
	high := flat(region(5, 5, 256, 256), top)
	low, _ := field.Scale(high, -1, 0)
	cut, filled, e = road.Earth(high, low)
	wantSingle(t, "Earth", cut, e, 1<<37)
	wantSingle(t, "Earth", filled, e, 0)
	cut, filled, e = road.Earth(low, high)
	wantSingle(t, "Earth", cut, e, 0)
	wantSingle(t, "Earth", filled, e, 1<<37)
}

// P106: the errors of Earth, and their order.
func TestEarthErrors(t *testing.T) {
	f := row(1, 2)
	for _, s := range badFields() {
		for _, pair := range [][2]api.Field{{s.f, f}, {f, s.f}, {s.f, row(nan)}, {s.f, s.f}} {
			cut, filled, e := road.Earth(pair[0], pair[1])
			wantNoSingle(t, "Earth", cut, e, s.want)
			wantNoSingle(t, "Earth", filled, e, s.want)
		}
	}
	for _, g := range []api.Field{row(1), of(1, 0, 2, 1, 1, 2), of(0, 1, 2, 1, 1, 2), of(0, 0, 1, 2, 1, 2)} {
		cut, filled, e := road.Earth(f, g)
		wantNoSingle(t, "Earth", cut, e, api.ErrPlace)
		wantNoSingle(t, "Earth", filled, e, api.ErrPlace)
	}
}

// P105, P106: a road that is built lies on its bed, and elsewhere the ground is as it was.
func TestBuiltRoads(t *testing.T) {
	n := &numbers{state: 19}
	f := n.field(region(0, 0, 30, 30), n.single)
	way, _, e := road.Way(f, api.RoadRules{Grade: 2, Weight: 1, Bridge: 1}, at(2, 2), at(27, 20))
	wantError(t, "Way", e, api.OK)
	bed, e := road.Bed(f, way, api.BedMean, 0.1)
	wantError(t, "Bed", e, api.OK)
	g, e := road.Build(f, way, bed, 1, 3)
	wantError(t, "Build", e, api.OK)
	wantSingles(t, "Build", heightsOn(g, way), e, bed...)
	for i, v := range f.V {
		p := placeOf(f.Region, i)
		near := slices.ContainsFunc(way, func(q api.Point) bool { return (p.X-q.X)*(p.X-q.X)+(p.Y-q.Y)*(p.Y-q.Y) < 16 })
		if !near && !sameBits(g.V[i], v) {
			t.Error("Build changes a cell far away", p)
		}
	}
}
