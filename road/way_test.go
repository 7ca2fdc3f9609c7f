package road_test

import (
	"math"
	"slices"
	"testing"

	"tarnfell/api"
	"tarnfell/field"
	"tarnfell/road"
)

// winding is a way with steps and bridges in all directions.
func winding() []api.Point {
	return places(0, 0, 1, 0, 2, 1, 2, 2, 1, 3, 0, 3, -1, 2, -1, 1, 0, 0, 2, 0, 5, 3, 5, 7, 0, 12, -6, 12, -13, 5, -13, -3, -4, -12)
}

// P104: the errors of ways, of all functions with one; a field's own come first.
func TestWayErrors(t *testing.T) {
	f := field9()
	for _, s := range badWays() {
		for _, w := range slices.Concat(walkers(), walkersIn(f)) {
			if some, e := w.call(s.way); some || e != s.want {
				t.Errorf("%s of %d places: error %d, want %d; it has a result: %v", w.name, len(s.way), e, s.want, some)
			}
		}
	}
	for _, s := range badFields() {
		for _, w := range walkersIn(s.f) {
			for _, way := range [][]api.Point{nil, places(0, 0), places(1<<40, 0)} {
				if some, e := w.call(way); some || e != s.want {
					t.Errorf("%s: error %d, want %d; it has a result: %v", w.name, e, s.want, some)
				}
			}
		}
	}
}

// P104: functions with a field want all places to be in it.
func TestWaysOutsideOfFields(t *testing.T) {
	f := of(3, -4, 2, 2, 1, 1, 1, 1)
	for _, w := range walkersIn(f) {
		for _, p := range places(2, -4, 5, -4, 3, -5, 3, -2, 0, 0, math.MinInt, math.MaxInt, 3, 1<<32-4) {
			for _, way := range [][]api.Point{{p}, {at(3, -3), p}, {at(3, -3), at(4, -4), p, p}, {p, at(9, 9)}} {
				if some, e := w.call(way); some || e != api.ErrPlace {
					t.Errorf("%s of %v: error %d, want %d", w.name, way, e, api.ErrPlace)
				}
			}
		}
		if some, e := w.call(places(3, -4, 4, -3, 3, -3, 4, -4)); !some || e != api.OK {
			t.Errorf("%s: error %d", w.name, e)
		}
		if _, e := w.call(places(3, -4, 3, -4, 9, 9)); e != api.ErrForm {
			t.Errorf("%s: error %d, want %d", w.name, e, api.ErrForm)
		}
	}
}

// P104: ways at the limits of the plane, with the longest bridges, and with as many places as there may be.
func TestLongWays(t *testing.T) {
	for _, w := range walkers() {
		for _, s := range []badWay{
			{places(api.MaxPlace, api.MaxPlace, api.MaxPlace-1, api.MaxPlace-1), api.OK},
			{places(-api.MaxPlace, -api.MaxPlace, 12-api.MaxPlace, 12-api.MaxPlace), api.OK},
			{places(0, 0, 12, 0, 0, 12, 0, 0), api.OK},
			{long(api.MaxCells), api.OK},
		} {
			if some, e := w.call(s.way); e != s.want || !some && w.name != "Bridges" {
				t.Errorf("%s of %d places: error %d", w.name, len(s.way), e)
			}
		}
	}
}

// P104: known bridges.
func TestBridges(t *testing.T) {
	l, e := road.Bridges(winding())
	wantList(t, "Bridges", l, e, 9, 10, 11, 12, 13, 14, 15, 16)
	l, e = road.Bridges(places(7, 7))
	wantList(t, "Bridges", l, e)
	l, e = road.Bridges(places(0, 0, 0, 1, 0, 3, 1, 4))
	wantList(t, "Bridges", l, e, 2)
	n := &numbers{state: 7}
	for range 200 {
		way := n.way(region(-50, -50, 100, 100), 60, 12)
		var want []int
		for i, p := range way[1:] {
			if _, k := bearing(way[i], p); k > 1 {
				want = append(want, i+1)
			}
		}
		l, e = road.Bridges(way)
		wantList(t, "Bridges", l, e, want...)
	}
}

// P104, G6: Length is a sum in order of rounded lengths.
func TestLength(t *testing.T) {
	v, e := road.Length(places(7, 7))
	wantSingle(t, "Length", v, e, 0)
	v, e = road.Length(places(0, 0, 1, 0, 2, 1, 2, 8, -1, 5))
	wantSingle(t, "Length", v, e, plus(plus(plus(1, root2), 7), times(3, root2)))
	n := &numbers{state: 8}
	for range 200 {
		way := n.way(region(-50, -50, 100, 100), 200, 12)
		want := float32(0)
		for i, p := range way[1:] {
			want = plus(want, lengthOf(way[i], p))
		}
		v, e = road.Length(way)
		wantSingle(t, "Length", v, e, want)
	}
}

// P104, G7: a length that is no height; one that just is.
func TestLengthBeyondHeights(t *testing.T) {
	zigzag := make([]api.Point, api.MaxCells)
	for i := range zigzag {
		zigzag[i] = at(12*(i%2), 12*(i%2))
	}
	v, e := road.Length(zigzag)
	wantNoSingle(t, "Length", v, e, api.ErrRange)
	want, many := float32(0), 1
	for plus(want, times(12, root2)) <= top {
		want = plus(want, times(12, root2))
		many++
	}
	v, e = road.Length(zigzag[:many])
	wantSingle(t, "Length", v, e, want)
	v, e = road.Length(zigzag[:many+1])
	wantNoSingle(t, "Length", v, e, api.ErrRange)
}

// P104: known grades, and those of ways by chance; a 0 of any sign.
func TestGrades(t *testing.T) {
	f := of(2, 2, 4, 2, 0, 3, -1, 2, 5, 5, 5, 4)
	l, e := road.Grades(f, places(2, 2, 3, 2, 3, 3, 2, 2, 5, 2, 4, 2, 5, 3))
	wantList(t, "Grades", l, e, 3, 2, over(5, root2), over(2, 3), 3, over(5, root2))
	l, e = road.Grades(f, places(2, 3, 3, 3, 4, 3))
	wantList(t, "Grades", l, e, 0, 0)
	l, e = road.Grades(f, places(2, 3))
	wantList(t, "Grades", l, e)
	n := &numbers{state: 9}
	for _, f := range n.fields(1000) {
		way := n.way(f.Region, 20, 12)
		var want []float32
		for i, p := range way[1:] {
			want = append(want, gradeOf(f, way[i], p))
		}
		l, e = road.Grades(f, way)
		wantList(t, "Grades", l, e, want...)
	}
}

// P104, G7: a grade that is no height; one that just is.
func TestGradesBeyondHeights(t *testing.T) {
	f := row(top, -top, 0, tiny)
	for _, s := range []badWay{
		{places(0, 0, 2, 0), api.OK}, {places(3, 0, 1, 0), api.OK}, {places(1, 0, 2, 0), api.OK},
		{places(0, 0, 1, 0), api.ErrRange}, {places(1, 0, 0, 0), api.ErrRange}, {places(2, 0, 3, 0, 2, 0, 1, 0, 0, 0), api.ErrRange},
	} {
		l, e := road.Grades(f, s.way)
		if e != s.want || (e == api.OK) != (len(l) == len(s.way)-1) {
			t.Error("Grades", s.way, l, e)
		}
	}
	l, e := road.Grades(of(0, 0, 2, 2, top, 0, 0, -top), places(0, 0, 1, 1))
	wantNoList(t, "Grades", l, e, api.ErrRange)
}

// P107: known corners.
func TestCorners(t *testing.T) {
	for _, s := range []struct{ way, corners []api.Point }{
		{places(7, 7), places(7, 7)},
		{places(7, 7, 8, 7), places(7, 7, 8, 7)},
		{places(0, 0, 1, 0, 2, 0, 3, 0), places(0, 0, 3, 0)},
		{places(0, 0, 1, 1, 2, 2, 2, 3, 2, 4, 1, 5), places(0, 0, 2, 2, 2, 4, 1, 5)},
		{places(0, 0, 1, 0, 0, 0, 1, 0), places(0, 0, 1, 0, 0, 0, 1, 0)},
		// A bridge has a corner at each end, also in the same direction.
		{places(0, 0, 1, 0, 2, 0, 4, 0, 5, 0, 6, 0), places(0, 0, 2, 0, 4, 0, 6, 0)},
		{places(0, 0, 2, 0, 4, 0, 7, 0), places(0, 0, 2, 0, 4, 0, 7, 0)},
		{places(0, 0, 2, 2, 4, 2), places(0, 0, 2, 2, 4, 2)},
		{winding(), winding()},
	} {
		l, e := road.Corners(s.way)
		wantList(t, "Corners", l, e, s.corners...)
	}
	n := &numbers{state: 10}
	for range 300 {
		way := n.way(region(-50, -50, 100, 100), 60, 3)
		l, e := road.Corners(way)
		wantList(t, "Corners", l, e, cornersOf(way)...)
	}
}

// onGround makes steps of bridges.
func onGround(way []api.Point) []api.Point {
	l := way[:1:1]
	for _, p := range way[1:] {
		for last := l[len(l)-1]; last != p; last = l[len(l)-1] {
			d, _ := bearing(last, p)
			l = append(l, ahead(last, d, 1))
		}
	}
	return l
}

// P107: Straight has all places between corners, and is the way of Corners, but for bridges.
func TestStraight(t *testing.T) {
	l, e := road.Straight(places(7, 7))
	wantList(t, "Straight", l, e, at(7, 7))
	l, e = road.Straight(places(0, 0, 3, 0, 1, -2, 1, -1, 0, -1))
	wantList(t, "Straight", l, e, places(0, 0, 1, 0, 2, 0, 3, 0, 2, -1, 1, -2, 1, -1, 0, -1)...)
	l, e = road.Straight(winding())
	wantList(t, "Straight", l, e, onGround(winding())...)
	n := &numbers{state: 11}
	for range 300 {
		way := n.way(region(-50, -50, 100, 100), 60, 3)
		corners, e := road.Corners(way)
		wantError(t, "Corners", e, api.OK)
		l, e = road.Straight(corners)
		wantList(t, "Straight", l, e, onGround(way)...)
		way = onGround(way)
		corners, e = road.Corners(way)
		wantError(t, "Corners", e, api.OK)
		l, e = road.Straight(corners)
		wantList(t, "Straight", l, e, way...)
	}
}

// P107: the errors of Straight, and their order.
func TestStraightErrors(t *testing.T) {
	far := api.MaxPlace
	for _, s := range []badWay{
		{nil, api.ErrEmpty}, {[]api.Point{}, api.ErrEmpty},
		{long(api.MaxCells + 1), api.ErrLarge}, {slices.Repeat(places(far+1, 0), api.MaxCells+1), api.ErrLarge},
		{places(far+1, 0), api.ErrPlace}, {places(0, -far-1), api.ErrPlace}, {places(0, 0, 1, 0, far+1, 0), api.ErrPlace}, {places(math.MaxInt, 0, math.MinInt, 0), api.ErrPlace},
		{places(0, 0, 0, 0), api.ErrForm}, {places(0, 0, 1, 2), api.ErrForm}, {places(0, 0, 5, -4), api.ErrForm}, {places(far, far, -far, far-1), api.ErrForm},
		{places(0, 0, 1, 2, far+1, 0), api.ErrForm}, {places(0, 0, far+1, 0, far+1, 0), api.ErrPlace},
		// What is too long is told behind all places.
		{places(0, 0, api.MaxCells, 0), api.ErrLarge}, {places(0, 0, api.MaxCells-1, 0), api.OK},
		{places(far, far, -far, -far), api.ErrLarge}, {places(0, 0, api.MaxCells, 0, 1<<40, 0), api.ErrPlace}, {places(0, 0, api.MaxCells, 0, api.MaxCells, 0), api.ErrForm},
		{places(0, 0, -30000, 30000, -30000, -5535), api.OK}, {places(0, 0, -30000, 30000, -30000, -5536), api.ErrLarge},
	} {
		l, e := road.Straight(s.way)
		if e != s.want || (e == api.OK) != (len(l) == api.MaxCells) || e != api.OK && len(l) > 0 {
			t.Errorf("Straight: got %d places, error %d; want error %d", len(l), e, s.want)
		}
	}
	there := slices.Repeat(places(far, -far, -far, -far), api.MaxCells/2)
	l, e := road.Straight(there)
	wantNoList(t, "Straight", l, e, api.ErrLarge)
}

// P107, G6: known rounded ways, and those of places by chance.
func TestRounded(t *testing.T) {
	l, e := road.Rounded(places(-7, 7), 6)
	wantList(t, "Rounded", l, e, api.Spot{X: -7, Y: 7})
	l, e = road.Rounded(places(0, 0, 8, 0, 8, -8), 0)
	wantList(t, "Rounded", l, e, api.Spot{}, api.Spot{X: 8}, api.Spot{X: 8, Y: -8})
	l, e = road.Rounded(places(0, 0, 8, 0, 8, -8), 1)
	wantList(t, "Rounded", l, e, api.Spot{}, api.Spot{X: 2}, api.Spot{X: 6}, api.Spot{X: 8, Y: -2}, api.Spot{X: 8, Y: -6}, api.Spot{X: 8, Y: -8})
	l, e = road.Rounded(places(3, 4, 3, 4), 2)
	wantList(t, "Rounded", l, e, slices.Repeat([]api.Spot{{X: 3, Y: 4}}, 8)...)
	n := &numbers{state: 12}
	for _, reach := range []int{3, 1000, api.MaxPlace} {
		for k := range 7 {
			for _, many := range []int{1, 2, 3, 17, 200} {
				var way []api.Point
				for range many {
					way = append(way, at(n.between(-reach, reach), n.between(-reach, reach)))
				}
				l, e = road.Rounded(way, k)
				wantList(t, "Rounded", l, e, roundedOf(way, k)...)
			}
		}
	}
}

// P107: the errors of Rounded, and their order.
func TestRoundedErrors(t *testing.T) {
	far := api.MaxPlace
	for _, s := range []struct {
		l     []api.Point
		times int
		want  api.Errno
	}{
		{nil, 1, api.ErrEmpty}, {[]api.Point{}, 7, api.ErrEmpty},
		{long(201), 1, api.ErrLarge}, {slices.Repeat(places(far+1, 0), 201), -1, api.ErrLarge},
		{places(far+1, 0), 7, api.ErrPlace}, {places(far, -far, 0, -far-1), 7, api.ErrPlace}, {places(0, 0, -far-1, 0), 1, api.ErrPlace}, {places(0, 0, 0, math.MaxInt), 1, api.ErrPlace},
		{places(0, 0), -1, api.ErrRange}, {places(0, 0), 7, api.ErrRange}, {places(0, 0, far, far), math.MaxInt, api.ErrRange}, {places(0, 0, far, far), math.MinInt, api.ErrRange}, {places(0, 0), 1 << 32, api.ErrRange},
	} {
		l, e := road.Rounded(s.l, s.times)
		wantNoList(t, "Rounded", l, e, s.want)
	}
}

// P104: what Grades says is what rules ask of a step, and a way of Way has the length that Length tells.
func TestGradesAgreeWithRules(t *testing.T) {
	n := &numbers{state: 13}
	f := n.field(region(0, 0, 12, 12), n.single)
	low, high, e := field.Range(f)
	wantError(t, "Range", e, api.OK)
	s := api.RoadRules{Grade: (high - low) / 3, Bridge: 1}
	for i := range f.V {
		way, price, e := road.Way(f, s, at(5, 5), placeOf(f.Region, i))
		if e == api.ErrNone {
			continue
		}
		length, e := road.Length(way)
		wantSingle(t, "Length", length, e, price)
		grades, e := road.Grades(f, way)
		if e != api.OK || len(grades) > 0 && slices.Max(grades) > s.Grade {
			t.Error("a way is too steep", grades, e)
		}
	}
}
