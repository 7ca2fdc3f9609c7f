package level_test

import (
	"slices"
	"testing"

	"tarnfell/api"
	"tarnfell/level"
)

func wantCurves(t *testing.T, what string, l []api.Curve, e api.Errno, want ...api.Curve) {
	t.Helper()
	wantSame(t, what, l, e, want, sameCurve)
}

func open(spots ...api.Spot) api.Curve { return api.Curve{Spots: spots} }

func closed(spots ...api.Spot) api.Curve { return api.Curve{Spots: spots, Closed: true} }

// P218, G6: Contour of fields of all forms at many heights.
func TestContour(t *testing.T) {
	n := &numbers{state: 50}
	many, closed, saddles := 0, 0, 0
	for _, r := range append(regions(), region(0, 0, 2, 2), region(-3, -3, 3, 3), region(4, -20, 2, 14), region(-8, -8, 24, 20)) {
		if r.W == 1 || r.H == 1 {
			continue
		}
		for range 6 {
			for _, f := range n.fields(r, top) {
				for _, h := range []float32{0, minusZero, 0.5, f.V[n.between(0, len(f.V)-1)], after(f.V[0]), n.single(), 3 * tiny, slices.Max(f.V), slices.Min(f.V)} {
					l, e := level.Contour(f, h)
					wantCurves(t, "Contour", l, e, contourOf(f, h)...)
					many += len(l)
					for _, c := range l {
						if c.Closed {
							closed++
						}
					}
					saddles += saddlesOf(f, h)
				}
			}
		}
	}
	if many < 1000 || closed < 300 || saddles < 1000 {
		t.Error("curves, closed ones, saddles:", many, closed, saddles)
	}
}

// saddlesOf counts the squares all of whose sides are crossed.
func saddlesOf(f api.Field, h float32) int {
	n := 0
	for _, p := range cells(region(f.X, f.Y, f.W-1, f.H-1)) {
		high := func(i, j int) bool { return valueOf(f, at(p.X+i, p.Y+j)) >= h }
		if high(0, 0) == high(1, 1) && high(0, 1) == high(1, 0) && high(0, 0) != high(0, 1) {
			n++
		}
	}
	return n
}

// P218: known curves: where they begin, which way they go, and in which order they come.
func TestKnownContours(t *testing.T) {
	l, e := level.Contour(of(0, 0, 3, 3, 0, 0, 0, 0, 4, 0, 0, 0, 0), 2)
	wantCurves(t, "Contour", l, e, closed(api.Spot{X: 1, Y: 0.5}, api.Spot{X: 0.5, Y: 1}, api.Spot{X: 1, Y: 1.5}, api.Spot{X: 1.5, Y: 1}))
	l, e = level.Contour(of(-3, 5, 2, 2, 0, 4, 0, 4), 1)
	wantCurves(t, "Contour", l, e, open(api.Spot{X: -2.75, Y: 5}, api.Spot{X: -2.75, Y: 6}))
	l, e = level.Contour(of(-3, 5, 2, 2, 4, 4, 0, 0), 1)
	wantCurves(t, "Contour", l, e, open(api.Spot{X: -3, Y: 5.75}, api.Spot{X: -2, Y: 5.75}))
	// Around one corner each; the side to the right comes ahead of the one below.
	for _, s := range []struct {
		v    [4]float32
		want api.Curve
	}{
		{[4]float32{4, 0, 0, 0}, open(api.Spot{X: 0.75}, api.Spot{Y: 0.75})},
		{[4]float32{0, 4, 0, 0}, open(api.Spot{X: 0.25}, api.Spot{X: 1, Y: 0.75})},
		{[4]float32{0, 0, 4, 0}, open(api.Spot{Y: 0.25}, api.Spot{X: 0.75, Y: 1})},
		{[4]float32{0, 0, 0, 4}, open(api.Spot{X: 1, Y: 0.25}, api.Spot{X: 0.25, Y: 1})},
	} {
		l, e = level.Contour(of(0, 0, 2, 2, s.v[:]...), 1)
		wantCurves(t, "Contour", l, e, s.want)
	}
	// Nothing is high, all is high, and all but what is below by the least.
	l, e = level.Contour(flat(region(0, 0, 4, 4), 1), after(1))
	wantCurves(t, "Contour", l, e)
	l, e = level.Contour(flat(region(0, 0, 4, 4), 1), 1)
	wantCurves(t, "Contour", l, e)
	l, e = level.Contour(of(0, 0, 2, 2, 1, before(1), 1, 1), 1)
	wantCurves(t, "Contour", l, e, open(api.Spot{X: 0}, api.Spot{X: 1, Y: 1}))
	l, e = level.Contour(of(0, 0, 2, 2, minusZero, 0, 0, minusZero), 0)
	wantCurves(t, "Contour", l, e)
}

// P218: four crossed sides: the mean tells which corners are cut off.
func TestSaddles(t *testing.T) {
	topLeft := open(api.Spot{X: 0.5}, api.Spot{Y: 0.5})
	topRight := open(api.Spot{X: 0.5}, api.Spot{X: 1, Y: 0.5})
	bottomLeft := open(api.Spot{Y: 0.5}, api.Spot{X: 0.5, Y: 1})
	bottomRight := open(api.Spot{X: 1, Y: 0.5}, api.Spot{X: 0.5, Y: 1})
	// The mean of 1, -1, -1 and 1 is 0, which is at least 0: what is not high is cut off.
	l, e := level.Contour(of(0, 0, 2, 2, 1, -1, -1, 1), 0)
	wantCurves(t, "Contour", l, e, topRight, bottomLeft)
	l, e = level.Contour(of(0, 0, 2, 2, -1, 1, 1, -1), 0)
	wantCurves(t, "Contour", l, e, topLeft, bottomRight)
	l, e = level.Contour(of(0, 0, 2, 2, -1, 1, 1, -1), minusZero)
	wantCurves(t, "Contour", l, e, topLeft, bottomRight)
	// With spots elsewhere: just below 0 what is high is cut off.
	f := of(0, 0, 2, 2, 1, -1, after(-1), 1)
	f.V[2] = before(-1)
	l, e = level.Contour(f, 0)
	if e != api.OK || len(l) != 2 || l[0].Spots[0] != (api.Spot{X: 0.5}) || l[0].Spots[1].X != 0 || l[1].Spots[0] != (api.Spot{X: 1, Y: 0.5}) {
		t.Error("Contour", l, e)
	}
	// The sums go by rows: by columns the mean of these would be 0, and not less.
	f = of(0, 0, 2, 2, 1, -1, -0x0.9p-25, 0x0.8p-25)
	if plus(plus(f.V[0], f.V[2]), plus(f.V[1], f.V[3])) != 0 {
		t.Fatal("sums by columns", f.V)
	}
	l, e = level.Contour(f, 0)
	if e != api.OK || len(l) != 2 || l[0].Spots[0] != (api.Spot{X: 0.5}) || l[0].Spots[1].X != 0 {
		t.Error("Contour", l, e)
	}
	// One ring around two corners that are high, if the mean is high, otherwise two.
	ring := func(mid float32) api.Field {
		return of(0, 0, 4, 4,
			0, 0, 0, 0,
			0, 8, mid, 0,
			0, mid, 8, 0,
			0, 0, 0, 0)
	}
	for _, s := range []struct {
		mid  float32
		want int
	}{{3, 1}, {2, 1}, {1.999, 2}, {0, 2}} {
		l, e = level.Contour(ring(s.mid), 5)
		if e != api.OK || len(l) != s.want || !l[0].Closed {
			t.Error("Contour of a ring", s.mid, l, e)
		}
	}
}

// P218: curves come in the order of the sides at which they begin, open ones and closed ones together.
func TestOrderOfCurves(t *testing.T) {
	f := of(0, 0, 6, 5,
		0, 0, 0, 0, 0, 9,
		0, 9, 0, 0, 0, 9,
		0, 0, 0, 9, 0, 9,
		9, 0, 0, 0, 0, 9,
		0, 0, 9, 0, 0, 9)
	l, e := level.Contour(f, 4.5)
	var first []api.Spot
	var kinds []bool
	for _, c := range l {
		first, kinds = append(first, c.Spots[0]), append(kinds, c.Closed)
	}
	wantList(t, "the first spots", first, e, api.Spot{X: 1, Y: 0.5}, api.Spot{X: 4.5}, api.Spot{X: 3, Y: 1.5}, api.Spot{X: 0, Y: 2.5}, api.Spot{X: 1.5, Y: 4})
	wantList(t, "the kinds", kinds, e, true, false, true, false, false)
	// A curve that comes back up to a row ahead of its first end begins at this end all the same.
	f = of(0, 0, 5, 4,
		0, 0, 0, 0, 0,
		0, 0, 9, 0, 0,
		0, 9, 9, 0, 0,
		9, 9, 9, 0, 0)
	l, e = level.Contour(f, 4.5)
	wantCurves(t, "Contour", l, e, contourOf(f, 4.5)...)
	if len(l) != 1 || l[0].Closed || l[0].Spots[0] != (api.Spot{Y: 2.5}) || l[0].Spots[len(l[0].Spots)-1] != (api.Spot{X: 2.5, Y: 3}) {
		t.Error("Contour", l)
	}
	// So a closed one that lies around there comes ahead of it, or behind it.
	f = of(0, 0, 7, 5,
		0, 0, 0, 0, 0, 0, 0,
		0, 0, 9, 9, 9, 0, 0,
		0, 9, 9, 0, 9, 9, 0,
		9, 9, 9, 9, 9, 9, 9,
		9, 9, 9, 9, 9, 9, 9)
	l, e = level.Contour(f, 4.5)
	if e != api.OK || len(l) != 2 || !l[0].Closed || l[0].Spots[0] != (api.Spot{X: 3, Y: 1.5}) || l[1].Closed || l[1].Spots[0] != (api.Spot{Y: 2.5}) {
		t.Error("Contour", l, e)
	}
}

// P218, P289: each crossed side is on just one curve, each spot lies on its side, open curves end at the edge.
func TestContoursHold(t *testing.T) {
	n := &numbers{state: 51}
	for _, r := range []api.Region{region(0, 0, 9, 7), region(-13, -3, 12, 18), region(-edge, edge-9, 11, 9), region(edge-7, -edge, 7, 10), region(0, 0, 40, 40)} {
		for _, f := range n.fields(r, top) {
			for range 4 {
				h := [4]float32{0, n.single(), n.single() * top, f.V[n.between(0, len(f.V)-1)]}[n.between(0, 3)]
				l, e := level.Contour(f, h)
				chains := chainsOf(f, h)
				if e != api.OK || len(l) != len(chains) {
					t.Error("Contour", len(l), e)
					continue
				}
				wantEachSideOnce(t, f, h, l, chains)
			}
		}
	}
}

func wantEachSideOnce(t *testing.T, f api.Field, h float32, l []api.Curve, chains [][]side) {
	t.Helper()
	seen := map[side]int{}
	for i, sides := range chains {
		if len(sides) != len(l[i].Spots) {
			t.Error("a curve with other sides", len(sides), len(l[i].Spots))
			return
		}
		for k, s := range sides {
			seen[s]++
			a, b, spot := s.a, s.b(), l[i].Spots[k]
			if spot.X < float32(a.X) || spot.X > float32(b.X) || spot.Y < float32(a.Y) || spot.Y > float32(b.Y) {
				t.Error("a spot beside its side", s, spot)
			}
		}
		last := sides[len(sides)-1]
		if !l[i].Closed && !(atEdge(f.Region, sides[0]) && atEdge(f.Region, last)) {
			t.Error("an open curve that does not end at the edge", sides)
		}
		if l[i].Closed && (atEdge(f.Region, sides[0]) || len(sides) < 4) {
			t.Error("a closed curve at the edge", sides)
		}
	}
	for _, p := range cells(f.Region) {
		for _, s := range []side{{p, false}, {p, true}} {
			if !covers(f.Region, s.b()) {
				continue
			}
			if want := map[bool]int{true: 1}[s.isCrossed(f, h)]; seen[s] != want {
				t.Error("a side on so many curves:", s, seen[s], want)
			}
		}
	}
}

// atEdge reports whether a side belongs to one square alone.
func atEdge(r api.Region, s side) bool {
	if s.below {
		return s.a.X == r.X || s.a.X == r.X+r.W-1
	}
	return s.a.Y == r.Y || s.a.Y == r.Y+r.H-1
}

// P218: the errors of Contour, and their order.
func TestContourErrors(t *testing.T) {
	for _, r := range []api.Region{region(0, 0, 3, 3), region(0, 0, 1, 3), region(0, 0, 3, 1), region(0, 0, 1, 1)} {
		for _, s := range badSingles(-top, top) {
			l, e := level.Contour(flat(r, 1), s.v)
			wantNothing(t, "Contour", len(l) > 0, e, s.want)
		}
		want := api.ErrEmpty
		if r.W > 1 && r.H > 1 {
			want = api.OK
		}
		for _, h := range []float32{top, -top, 0, minusZero} {
			l, e := level.Contour(flat(r, 1), h)
			wantNothing(t, "Contour", len(l) > 0, e, want)
		}
	}
	// Spots need be no heights.
	l, e := level.Contour(of(edge-2, -edge, 2, 2, top, -top, top, -top), -top/2)
	wantCurves(t, "Contour", l, e, open(api.Spot{X: edge - 1.25, Y: -edge}, api.Spot{X: edge - 1.25, Y: 1 - edge}))
	if l[0].Spots[0].X <= top {
		t.Error("Contour", l)
	}
}
