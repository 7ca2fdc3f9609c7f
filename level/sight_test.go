package level_test

import (
	"math"
	"slices"
	"testing"

	"tarnfell/api"
	"tarnfell/level"
)

// P214: Line from each place to each other one, on both sides of 0.
func TestLine(t *testing.T) {
	for _, a := range cells(region(-4, -3, 8, 7)) {
		for _, b := range cells(region(-9, -10, 19, 21)) {
			l, e := level.Line(a, b)
			wantList(t, "Line", l, e, lineOf(a, b)...)
		}
	}
	n := &numbers{state: 40}
	for range 30 {
		a := n.pointIn(region(-edge, -edge, 2*edge+1, 2*edge+1))
		b := at(a.X+n.between(-9000, 9000), a.Y+n.between(-9000, 9000))
		if max(b.X, -b.X, b.Y, -b.Y) > edge {
			continue
		}
		l, e := level.Line(a, b)
		wantList(t, "Line", l, e, lineOf(a, b)...)
	}
}

// P214: known lines; of two cells that are equally near that with the greater coordinate.
func TestKnownLines(t *testing.T) {
	for _, s := range []struct {
		a, b api.Point
		want []api.Point
	}{
		{at(5, -7), at(5, -7), []api.Point{at(5, -7)}},
		{at(0, 0), at(4, 2), []api.Point{at(0, 0), at(1, 1), at(2, 1), at(3, 2), at(4, 2)}},
		{at(4, 2), at(0, 0), []api.Point{at(4, 2), at(3, 2), at(2, 1), at(1, 1), at(0, 0)}},
		{at(0, 0), at(4, -2), []api.Point{at(0, 0), at(1, 0), at(2, -1), at(3, -1), at(4, -2)}},
		{at(0, 0), at(-2, 4), []api.Point{at(0, 0), at(0, 1), at(-1, 2), at(-1, 3), at(-2, 4)}},
		{at(1, 1), at(1, -2), []api.Point{at(1, 1), at(1, 0), at(1, -1), at(1, -2)}},
		{at(edge, edge), at(edge-1, edge-1), []api.Point{at(edge, edge), at(edge-1, edge-1)}},
		{at(-edge, edge), at(1-edge, edge), []api.Point{at(-edge, edge), at(1-edge, edge)}},
	} {
		l, e := level.Line(s.a, s.b)
		wantList(t, "Line", l, e, s.want...)
	}
}

// P214: the errors of Line, and the longest one.
func TestLineErrors(t *testing.T) {
	for _, p := range placesOutside(region(-edge, -edge, 2*edge+1, 2*edge+1)) {
		for _, s := range [][2]api.Point{{p, at(0, 0)}, {at(0, 0), p}, {p, p}, {p, at(edge, -edge)}, {at(edge, edge), p}} {
			l, e := level.Line(s[0], s[1])
			wantNothing(t, "Line", len(l) > 0, e, api.ErrPlace)
		}
	}
	for _, s := range []struct {
		a, b api.Point
		want api.Errno
	}{
		{at(0, 0), at(65535, 0), api.OK}, {at(0, 0), at(65536, 0), api.ErrLarge}, {at(7, 30000), at(9, -35535), api.OK}, {at(7, 30000), at(9, -35536), api.ErrLarge},
		{at(-edge, -edge), at(edge, edge), api.ErrLarge}, {at(edge, 0), at(-edge, 0), api.ErrLarge}, {at(-70000, -70000), at(-4465, -70000), api.OK}, {at(-4464, -70000), at(-70000, -70000), api.ErrLarge},
	} {
		l, e := level.Line(s.a, s.b)
		if s.want != api.OK {
			wantNothing(t, "Line", len(l) > 0, e, s.want)
		} else if e != api.OK || len(l) != api.MaxCells || l[0] != s.a || l[len(l)-1] != s.b {
			t.Error("Line", s.a, s.b, len(l), e)
		}
	}
}

// P217: Profile of all pairs of cells.
func TestProfile(t *testing.T) {
	n := &numbers{state: 41}
	for _, r := range regions() {
		f := n.field(r, func() float32 { return n.height(top) })
		for range 200 {
			a, b := n.pointIn(r), n.pointIn(r)
			var want []float32
			for _, p := range lineOf(a, b) {
				want = append(want, valueOf(f, p))
			}
			l, e := level.Profile(f, a, b)
			wantSingles(t, "Profile", l, e, want...)
		}
		for _, p := range placesOutside(r) {
			for _, q := range []api.Point{at(r.X, r.Y), p} {
				l, e := level.Profile(f, p, q)
				wantNothing(t, "Profile", len(l) > 0, e, api.ErrPlace)
				l, e = level.Profile(f, q, p)
				wantNothing(t, "Profile", len(l) > 0, e, api.ErrPlace)
			}
		}
	}
	l, e := level.Profile(of(2, 3, 3, 2, 1, 2, 3, 4, minusZero, 6), at(4, 3), at(2, 4))
	wantSingles(t, "Profile", l, e, 3, minusZero, 4)
}

// P215, G6: Sees from each cell to each other one.
func TestSees(t *testing.T) {
	n := &numbers{state: 42}
	for _, r := range []api.Region{region(0, 0, 6, 5), region(-5, -3, 7, 6), region(-20, 7, 12, 1), region(3, -6, 1, 9), region(0, 0, 1, 1), region(edge-5, -edge, 5, 5)} {
		for _, f := range n.fields(r, top) {
			for _, eye := range []float32{0, minusZero, tiny, 0.5, 2, top} {
				for _, a := range cells(r) {
					for _, b := range cells(r) {
						is, e := level.Sees(f, a, b, eye)
						if want := seenOf(f, a, b, eye); is != want || e != api.OK {
							t.Fatalf("Sees from %v to %v with %v: %v, error %d; want %v", a, b, eye, is, e, want)
						}
					}
				}
			}
		}
	}
}

// P215: what somebody sees: a cell that is as high as the sight does not hide what is behind it.
func TestKnownSights(t *testing.T) {
	f := row(0, 0, 2, 0, 3)
	for x, want := range []bool{true, true, true, false, true} {
		if is, e := level.Sees(f, at(0, 0), at(x, 0), 1); is != want || e != api.OK {
			t.Error("Sees", x, is, e)
		}
	}
	for _, s := range []struct {
		v    []float32
		eye  float32
		want bool
	}{
		{[]float32{0, 1, 2}, 0, true}, {[]float32{0, after(1), 2}, 0, false}, {[]float32{2, 1, 0}, 0, true}, {[]float32{2, after(1), 0}, 0, false},
		{[]float32{0, 2, 2}, 2, true}, {[]float32{0, after(2), 2}, 2, false}, {[]float32{0, after(2), 2}, after(2) * 1.0001, true},
		{[]float32{0, 1, 0}, 2, true}, {[]float32{0, 1, 0}, before(2), false}, {[]float32{0, 0, 1, 0}, 3, true}, {[]float32{0, 0, 1, 0}, before(3), false}, {[]float32{0, 2, 0, 0}, 3, true},
		{[]float32{9, 0, 9}, 0, true}, {[]float32{0, 9}, 0, true}, {[]float32{9, 0}, 0, true}, {[]float32{top, top, top}, 0, true}, {[]float32{-top, 0, top}, 0, true},
		{[]float32{top, top, -top}, top, false}, {[]float32{top, top / 2, -top}, top, true}, {[]float32{0, minusZero, 0}, 0, true}, {[]float32{minusZero, 0, minusZero}, minusZero, true},
	} {
		is, e := level.Sees(row(s.v...), at(0, 0), at(len(s.v)-1, 0), s.eye)
		if is != s.want || e != api.OK {
			t.Errorf("Sees over %v with %v: %v, error %d", s.v, s.eye, is, e)
		}
	}
	// The eye is where the first one is, so that sight is not the same both ways.
	hill := row(0, 1.5, 0, 0)
	there, _ := level.Sees(hill, at(0, 0), at(3, 0), 2)
	back, _ := level.Sees(hill, at(3, 0), at(0, 0), 2)
	if there || back {
		t.Error("Sees over a hill", there, back)
	}
	hill.V[1] = 1
	there, _ = level.Sees(hill, at(0, 0), at(3, 0), 2)
	back, _ = level.Sees(hill, at(3, 0), at(0, 0), 2)
	if !there || back {
		t.Error("Sees over a hill", there, back)
	}
}

// P215: View is Sees for each cell that is not too far away.
func TestView(t *testing.T) {
	n := &numbers{state: 43}
	for _, r := range regions() {
		for _, f := range n.fields(r, top) {
			a, eye := n.pointIn(r), []float32{0, 0.5, 3, tiny}[n.between(0, 3)]
			for _, most := range []int{0, 1, 2, 5, 17, 512} {
				l, e := level.View(f, a, eye, most)
				wantList(t, "View", l, e, viewOf(f, a, eye, most)...)
			}
		}
	}
	f := of(-2, 4, 5, 1, 0, 0, 2, 0, 3)
	for most, want := range [][]bool{{true, false, false, false, false}, {true, true, false, false, false}, {true, true, true, false, false}, {true, true, true, false, false}, {true, true, true, false, true}} {
		l, e := level.View(f, at(-2, 4), 1, most)
		wantList(t, "View", l, e, want...)
	}
}

// P216, G6: Horizon in all directions from all cells.
func TestHorizon(t *testing.T) {
	n := &numbers{state: 44}
	for _, r := range []api.Region{region(0, 0, 6, 5), region(-5, -3, 7, 6), region(-20, 7, 12, 1), region(3, -6, 1, 9), region(0, 0, 1, 1), region(edge-5, -edge, 5, 5)} {
		for _, f := range n.fields(r, top) {
			for _, a := range cells(r) {
				for dir := range 8 {
					for _, eye := range []float32{0, 0.5, top} {
						v, is, e := level.Horizon(f, a, eye, dir)
						want, some := horizonOf(f, a, eye, dir)
						if !sameBits(v, want) || is != some || e != api.OK {
							t.Fatalf("Horizon from %v in direction %d: %v, %v, error %d; want %v, %v", a, dir, v, is, e, want, some)
						}
					}
				}
			}
		}
	}
}

// P216: known rises; they need be no heights.
func TestKnownHorizons(t *testing.T) {
	root2 := float32(math.Sqrt2)
	f := of(7, 7, 3, 3,
		1, 2, 4,
		8, 0, 16,
		3, 5, 6)
	for dir, want := range []float32{16, 6 / root2, 5, 3 / root2, 8, 1 / root2, 2, 4 / root2} {
		v, is, e := level.Horizon(f, at(8, 8), 0, dir)
		wantSingle(t, "Horizon", v, e, want)
		if !is {
			t.Error("Horizon: nothing in direction", dir)
		}
	}
	for _, s := range []struct {
		v    []float32
		eye  float32
		want float32
	}{
		{[]float32{0, 0, 2, 0, 3}, 1, 0.5}, {[]float32{0, 0, 2, 0, 3}, 0, 1}, {[]float32{0, 1, 2}, 0, 1}, {[]float32{5, 1, 2}, 1, -2}, {[]float32{0, -3}, 0, -3},
		{[]float32{-top, top}, 0, 2 * top}, {[]float32{top, -top}, top, -3 * top}, {[]float32{0, minusZero, 0}, 0, minusZero}, {[]float32{0, 0, minusZero}, 0, 0}, {[]float32{minusZero, minusZero, -1}, minusZero, 0},
	} {
		v, is, e := level.Horizon(row(s.v...), at(0, 0), s.eye, 0)
		wantSingle(t, "Horizon", v, e, s.want)
		if !is {
			t.Error("Horizon: nothing", s.v)
		}
	}
	for dir := range 8 {
		v, is, e := level.Horizon(row(3, 4), at(1, 0), 0, dir)
		if is != (dir == 4) || e != api.OK || !is && !sameBits(v, 0) || is && v != -1 {
			t.Error("Horizon at an edge", dir, v, is, e)
		}
	}
	// Where the length of the way is rounded, the number is converted ahead of the product.
	long := flat(region(0, 0, 256, 256), 0)
	long.V[251*256+251] = 77
	v, _, e := level.Horizon(long, at(0, 0), 0, 1)
	wantSingle(t, "Horizon", v, e, over(77, times(251, root2)))
}

// P215, P216: the errors of Sees, View and Horizon, and their order.
func TestSightErrors(t *testing.T) {
	r := region(-4, 9, 5, 3)
	f, good := flat(r, 1), at(-4, 9)
	for _, s := range badSingles(0, top) {
		for _, p := range []api.Point{good, at(1, 9), at(math.MaxInt, math.MinInt)} {
			is, e := level.Sees(f, p, good, s.v)
			wantNothing(t, "Sees", is, e, s.want)
			is, e = level.Sees(f, good, p, s.v)
			wantNothing(t, "Sees", is, e, s.want)
			l, e := level.View(f, p, s.v, -1)
			wantNothing(t, "View", len(l) > 0, e, s.want)
			v, is, e := level.Horizon(f, p, s.v, 8)
			wantNothing(t, "Horizon", is || v != 0, e, s.want)
		}
	}
	for _, p := range placesOutside(r) {
		for _, s := range [][2]api.Point{{p, good}, {good, p}, {p, p}} {
			is, e := level.Sees(f, s[0], s[1], 1)
			wantNothing(t, "Sees", is, e, api.ErrPlace)
		}
		for _, most := range []int{0, 3, -1, 513} {
			l, e := level.View(f, p, 1, most)
			wantNothing(t, "View", len(l) > 0, e, api.ErrPlace)
		}
		for _, dir := range []int{0, 7, -1, 8} {
			v, is, e := level.Horizon(f, p, 1, dir)
			wantNothing(t, "Horizon", is || v != 0, e, api.ErrPlace)
		}
	}
	for _, most := range outside(0, 512) {
		l, e := level.View(f, good, 1, most)
		wantNothing(t, "View", len(l) > 0, e, api.ErrRange)
	}
	for _, dir := range outside(0, 7) {
		v, is, e := level.Horizon(f, good, 1, dir)
		wantNothing(t, "Horizon", is || v != 0, e, api.ErrRange)
	}
	l, e := level.View(f, good, top, 512)
	wantList(t, "View", l, e, slices.Repeat([]bool{true}, 15)...)
}
