package water_test

import (
	"math"
	"testing"

	"tarnfell/api"
	"tarnfell/water"
)

// P76: all lakes, against marks that are spread until none can be.
func TestLakes(t *testing.T) {
	n := &numbers{state: 15}
	many := 0
	for range 20 {
		for _, f := range n.fields(top) {
			for _, least := range []float32{0, minusZero, 1, 3.5, n.share()} {
				l, e := water.Lakes(f, least)
				wantList(t, "Lakes", l, e, lakesOf(f, least))
				many += len(l)
			}
		}
	}
	if many < 1000 {
		t.Error("too few lakes were made", many)
	}
}

// P76: known lakes: two at one level, which only touch where an island, or the ground at their level, is between them; and corners that join.
func TestKnownLakes(t *testing.T) {
	f := of(10, 20, 7, 5,
		9, 9, 9, 9, 9, 9, 9,
		9, 2, 9, 8, 9, 1, 9,
		9, 9, 3, 8, 5, 9, 8,
		9, 3, 2, 8, 5, 1, 9,
		9, 9, 9, 9, 9, 9, 9)
	l, e := water.Lakes(f, 0)
	wantList(t, "Lakes", l, e, []api.Lake{
		{Level: 8, Depth: 6, Volume: 22, Cells: 4, Deepest: at(11, 21), First: at(11, 21)},
		{Level: 8, Depth: 7, Volume: 20, Cells: 4, Deepest: at(15, 21), First: at(15, 21)},
	})
	l, e = water.Lakes(f, 6.5)
	wantList(t, "Lakes", l, e, []api.Lake{{Level: 8, Depth: 7, Volume: 20, Cells: 4, Deepest: at(15, 21), First: at(15, 21)}})
	l, e = water.Lakes(f, 7)
	wantList(t, "Lakes", l, e, []api.Lake{{Level: 8, Depth: 7, Volume: 20, Cells: 4, Deepest: at(15, 21), First: at(15, 21)}})
	l, e = water.Lakes(f, after(7))
	wantList(t, "Lakes", l, e, nil)
	// Beside each other, at two levels.
	f = of(0, 0, 6, 3,
		9, 9, 9, 9, 9, 9,
		7, 1, 8, 2, 3, 9,
		9, 9, 9, 9, 9, 9)
	l, e = water.Lakes(f, 0)
	wantList(t, "Lakes", l, e, []api.Lake{
		{Level: 7, Depth: 6, Volume: 6, Cells: 1, Deepest: at(1, 1), First: at(1, 1)},
		{Level: 8, Depth: 6, Volume: 11, Cells: 2, Deepest: at(3, 1), First: at(3, 1)},
	})
	for _, f := range []api.Field{row(1, 0, 1), bowl(5, 5), bowl(5, 6), of(0, 0, 2, 4, 5, 5, 1, 1, 1, 1, 5, 5)} {
		l, e = water.Lakes(f, 0)
		wantList(t, "Lakes", l, e, nil)
	}
}

// P76: the deepest place is that of the least height, also where the depths are equal by rounding; depths and volumes may be no heights.
func TestDeepLakes(t *testing.T) {
	f := of(0, 0, 5, 3, top, top, top, top, top, top, 0, tiny, -tiny, top, top, top, top, top, top)
	l, e := water.Lakes(f, 0)
	wantList(t, "Lakes", l, e, []api.Lake{{Level: top, Depth: top, Volume: 3 * top, Cells: 3, Deepest: at(3, 1), First: at(1, 1)}})
	l, e = water.Lakes(bowl(top, -top), top)
	wantList(t, "Lakes", l, e, []api.Lake{{Level: top, Depth: 2 * top, Volume: 2 * top, Cells: 1, Deepest: at(1, 1), First: at(1, 1)}})
	// Volumes are added in the order of cells: this one is rounded down twice.
	f = of(0, 0, 5, 3, 1, 1, 1, 1, 1, 1, 0, 1-0x1p-24, 1-0x1p-24, 1, 1, 1, 1, 1, 1)
	l, e = water.Lakes(f, 0)
	wantList(t, "Lakes", l, e, []api.Lake{{Level: 1, Depth: 1, Volume: 1, Cells: 3, Deepest: at(1, 1), First: at(1, 1)}})
	f = of(0, 0, 5, 3, 1, 1, 1, 1, 1, 1, 1-0x1p-24, 1-0x1p-24, 0, 1, 1, 1, 1, 1, 1)
	l, e = water.Lakes(f, 0)
	wantList(t, "Lakes", l, e, []api.Lake{{Level: 1, Depth: 1, Volume: 1 + 0x1p-23, Cells: 3, Deepest: at(3, 1), First: at(1, 1)}})
}

// P76, G7: the errors, in their order.
func TestLakesErrors(t *testing.T) {
	for _, s := range badSingles(0, top) {
		l, e := water.Lakes(bowl(1, 0), s.v)
		wantNoList(t, "Lakes", l, e, s.want)
		for _, b := range badFields() {
			l, e = water.Lakes(b.f, s.v)
			wantNoList(t, "Lakes", l, e, b.want)
		}
	}
	l, e := water.Lakes(bowl(1, 0), -tiny)
	wantNoList(t, "Lakes", l, e, api.ErrRange)
	l, e = water.Lakes(bowl(top, 0), top)
	if e != api.OK || len(l) != 1 {
		t.Error("Lakes", l, e)
	}
}

// P76: the cells around each lake, in order; a number that no lake has.
func TestShore(t *testing.T) {
	n := &numbers{state: 16}
	for range 20 {
		for _, f := range n.fields(top) {
			shores := shoresOf(f)
			for k, want := range shores {
				l, e := water.Shore(f, k)
				wantList(t, "Shore", l, e, want)
			}
			for _, k := range []int{-1, -2, len(shores), len(shores) + 1, math.MaxInt, math.MinInt, 1 << 32, -1 << 32} {
				l, e := water.Shore(f, k)
				wantNoList(t, "Shore", l, e, api.ErrNone)
			}
		}
	}
}

// P76: known shores, and the errors, in their order.
func TestKnownShores(t *testing.T) {
	f := of(-1, 2, 6, 3,
		9, 9, 9, 9, 9, 9,
		7, 1, 8, 2, 3, 9,
		9, 9, 9, 9, 9, 9)
	l, e := water.Shore(f, 0)
	wantList(t, "Shore", l, e, []api.Point{at(-1, 2), at(0, 2), at(1, 2), at(-1, 3), at(1, 3), at(-1, 4), at(0, 4), at(1, 4)})
	l, e = water.Shore(f, 1)
	wantList(t, "Shore", l, e, []api.Point{at(1, 2), at(2, 2), at(3, 2), at(4, 2), at(1, 3), at(4, 3), at(1, 4), at(2, 4), at(3, 4), at(4, 4)})
	for _, b := range badFields() {
		for _, k := range []int{0, -1, 1 << 40} {
			l, e = water.Shore(b.f, k)
			wantNoList(t, "Shore", l, e, b.want)
		}
	}
}
