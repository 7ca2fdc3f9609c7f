package water_test

import (
	"math"
	"slices"
	"testing"

	"tarnfell/api"
	"tarnfell/water"
)

// badCarving is a carving with what CheckCarving says of it.
type badCarving struct {
	c    api.Carving
	want api.Errno
}

func badCarvings() []badCarving {
	var l []badCarving
	for _, s := range badSingles(0, 1) {
		l = append(l, badCarving{api.Carving{Rate: s.v, Most: 1}, s.want})
	}
	for _, s := range badSingles(0, top) {
		l = append(l, badCarving{api.Carving{Least: s.v, Most: top}, s.want})
	}
	for _, s := range badSingles(-top, top) {
		l = append(l, badCarving{api.Carving{Most: s.v}, s.want}, badCarving{api.Carving{Rate: 2, Least: -1, Most: s.v, Steps: 51}, s.want})
	}
	for _, n := range outside(0, 50) {
		l = append(l, badCarving{api.Carving{Most: 1, Steps: n}, api.ErrRange}, badCarving{api.Carving{Least: 2, Most: 1, Steps: n}, api.ErrOrder})
	}
	return append(l,
		badCarving{api.Carving{Rate: -tiny, Most: 1}, api.ErrRange}, badCarving{api.Carving{Least: -tiny, Most: 1}, api.ErrRange},
		// All three are asked for ErrForm ahead of ErrRange, and for their ranges ahead of their order.
		badCarving{api.Carving{Rate: beyond, Least: nan}, api.ErrForm}, badCarving{api.Carving{Rate: 2, Most: nan}, api.ErrForm}, badCarving{api.Carving{Least: -beyond, Most: inf}, api.ErrForm},
		badCarving{api.Carving{Least: 2, Most: 1}, api.ErrOrder}, badCarving{api.Carving{Most: -tiny}, api.ErrOrder}, badCarving{api.Carving{Least: after(1), Most: 1}, api.ErrOrder},
		badCarving{api.Carving{Rate: 2, Least: 2, Most: 1}, api.ErrRange}, badCarving{api.Carving{Rate: -1, Least: 2, Most: 1}, api.ErrRange}, badCarving{api.Carving{Least: -1, Most: -2}, api.ErrRange},
	)
}

// P79: the edges of all ranges, and the errors, in their order.
func TestCheckCarving(t *testing.T) {
	for _, c := range []api.Carving{{}, {Rate: 1, Least: top, Most: top, Steps: 50}, {Rate: minusZero, Least: minusZero, Most: minusZero}, {Least: 0, Most: minusZero}, {Rate: tiny, Least: tiny, Most: 1, Steps: 1}} {
		wantError(t, "CheckCarving", water.CheckCarving(c), api.OK)
	}
	for _, s := range badCarvings() {
		wantError(t, "CheckCarving", water.CheckCarving(s.c), s.want)
	}
}

func (n *numbers) carving() api.Carving {
	c := api.Carving{Rate: n.share(), Most: top}
	if n.between(0, 1) == 0 {
		c.Rate /= 256
	}
	if n.between(0, 1) == 0 {
		c.Least = n.share()
	}
	if n.between(0, 1) == 0 {
		c.Most = c.Least + n.share()*4
	}
	return c
}

// P79, G6: the depth, with each operation rounded.
func TestDepth(t *testing.T) {
	n := &numbers{state: 20}
	for range 20000 {
		c := n.carving()
		amount := n.between(-2, 40)
		if n.between(0, 3) == 0 {
			amount = n.between(0, 1<<40)
		}
		for _, drop := range []float32{n.height(top), n.single() * 10, float32(n.between(-9, 9)) * tiny, n.single() * top} {
			amount = max(amount, 0)
			d, e := water.Depth(c, amount, drop)
			wantSingle(t, "Depth", d, e, depthOf(c, amount, drop))
		}
	}
}

// P79: known depths: nothing, the rate, the root, both bounds and the half of the drop, and the zeros.
func TestKnownDepths(t *testing.T) {
	for _, s := range []struct {
		c      api.Carving
		amount int
		drop   float32
		want   float32
	}{
		{api.Carving{Rate: 0.25, Most: 9}, 1, 8, 2}, {api.Carving{Rate: 0.25, Most: 9}, 4, 8, 4}, {api.Carving{Rate: 0.25, Most: 9}, 9, 8, 4}, {api.Carving{Rate: 0.25, Most: 9}, 2, 8, 2 * root2},
		{api.Carving{Rate: 0.25, Most: 9}, 0, 8, 0}, {api.Carving{Rate: 0.25, Most: 9}, 1, 0, 0}, {api.Carving{Rate: 0.25, Most: 9}, 1, minusZero, 0}, {api.Carving{Rate: 0.25, Most: 9}, 1, -8, 0}, {api.Carving{Rate: 1, Most: 9}, 1 << 40, -top, 0},
		{api.Carving{Rate: 0.25, Least: 2, Most: 9}, 1, 8, 2}, {api.Carving{Rate: 0.25, Least: after(2), Most: 9}, 1, 8, 0}, {api.Carving{Rate: 0.25, Most: 1.5}, 1, 8, 1.5}, {api.Carving{Rate: 0.25, Least: 1.5, Most: 1.5}, 1, 8, 1.5},
		// The depth can be less than Least, if that is more than the half of the drop.
		{api.Carving{Rate: 1, Least: 6, Most: 9}, 1, 8, 4}, {api.Carving{Rate: 1, Most: top}, 1 << 40, top, top / 2}, {api.Carving{Rate: 1, Most: 3}, 1 << 40, top, 3},
		{api.Carving{Rate: 0, Most: 9}, 1, 8, 0}, {api.Carving{Rate: minusZero, Most: 9}, 1, 8, minusZero}, {api.Carving{Rate: 0, Most: minusZero}, 1, 8, 0}, {api.Carving{Rate: minusZero}, 1, 8, minusZero}, {api.Carving{Rate: 1, Most: minusZero}, 1, 8, minusZero},
		{api.Carving{Rate: 1, Most: 9}, 1, tiny, 0}, {api.Carving{Rate: 1, Most: 9}, 1, 3 * tiny, 2 * tiny},
	} {
		d, e := water.Depth(s.c, s.amount, s.drop)
		wantSingle(t, "Depth", d, e, s.want)
	}
}

// P79: the errors, in their order.
func TestDepthErrors(t *testing.T) {
	for _, amount := range outside(0, 1<<40) {
		d, e := water.Depth(api.Carving{}, amount, 1)
		wantNoSingle(t, "Depth", d, e, api.ErrRange)
		for _, s := range badSingles(-top, top) {
			d, e = water.Depth(api.Carving{}, amount, s.v)
			wantNoSingle(t, "Depth", d, e, s.want)
			for _, c := range badCarvings() {
				d, e = water.Depth(c.c, amount, s.v)
				wantNoSingle(t, "Depth", d, e, c.want)
			}
		}
	}
	for _, c := range badCarvings() {
		d, e := water.Depth(c.c, 1, 1)
		wantNoSingle(t, "Depth", d, e, c.want)
	}
}

// P80: steps of carving, each one with the water of the ground that it finds.
func TestCarve(t *testing.T) {
	n := &numbers{state: 21}
	for range 3 {
		for _, f := range n.fields(top) {
			for _, c := range []api.Carving{{Rate: 0.5, Most: top}, {Rate: 1, Least: 0.5, Most: 2}, n.carving(), n.carving()} {
				want := f
				for c.Steps = range 5 {
					g, e := water.Carve(f, c)
					wantField(t, "Carve", g, e, want)
					want = carvedOnce(want, c)
				}
			}
		}
	}
}

// P80: known steps; a drop that is no height; a pit, whose water goes up in the ground itself.
func TestKnownCarving(t *testing.T) {
	c := api.Carving{Rate: 0.25, Most: 10, Steps: 1}
	g, e := water.Carve(row(8, 4, 0), c)
	wantField(t, "Carve", g, e, row(7, 4-root2, 0))
	g, e = water.Carve(bowl(5, 0), c)
	wantField(t, "Carve of a pit", g, e, bowl(5, 0))
	f := of(0, 0, 4, 3,
		9, 9, 9, 9,
		9, 3, 1, 5,
		9, 9, 9, 9)
	g, e = water.Carve(f, c)
	wantField(t, "Carve of a pit", g, e, carvedOnce(f, c))
	if g.V[5] != 2 || g.V[6] != 1 || g.V[7] != 5 {
		t.Error("Carve of a pit", g)
	}
	c.Steps = 50
	g, e = water.Carve(row(top, -top), api.Carving{Rate: 1, Most: top, Steps: 1})
	wantField(t, "Carve of a wall", g, e, row(0, -top))
	g, e = water.Carve(row(7, 7, 7), c)
	wantField(t, "Carve of flat ground", g, e, row(7, 7, 7))
	f = row(minusZero, 0, top, tiny, -3)
	g, e = water.Carve(f, api.Carving{Rate: 1, Most: 1})
	wantField(t, "Carve in no step", g, e, f)
}

// P80: no cell rises, and none falls below the value of the one to which it drains, if that is lower.
func TestCarveHolds(t *testing.T) {
	n := &numbers{state: 22}
	for range 10 {
		for _, f := range n.fields(top) {
			c := n.carving()
			c.Steps = 1
			dirs, _ := water.Drain(f)
			g, e := water.Carve(f, c)
			if e != api.OK {
				t.Fatal("Carve", e)
			}
			for i, v := range g.V {
				low := f.V[i]
				if dirs[i] >= 0 {
					low = min(low, f.V[neighbour(f.Region, i, dirs[i])])
				}
				if v > f.V[i] || v < low {
					t.Errorf("Carve makes %v of %v above %v", v, f.V[i], low)
				}
			}
		}
	}
}

// P80: the most steps, and the errors, in their order.
func TestCarveErrors(t *testing.T) {
	n := &numbers{state: 23}
	f := n.field(region(0, 0, 9, 8), n.single)
	c := api.Carving{Rate: 0.01, Most: 1, Steps: 50}
	want := f
	for range 50 {
		want = carvedOnce(want, c)
	}
	g, e := water.Carve(f, c)
	wantField(t, "Carve", g, e, want)
	for _, s := range badCarvings() {
		g, e = water.Carve(f, s.c)
		wantNoField(t, "Carve", g, e, s.want)
		for _, b := range badFields() {
			g, e = water.Carve(b.f, s.c)
			wantNoField(t, "Carve", g, e, b.want)
		}
	}
}

// P81: ways out of pits, one after the other, along the directions of the ground as it was.
func TestBreach(t *testing.T) {
	n := &numbers{state: 24}
	for range 10 {
		for _, f := range n.fields(top / 2) {
			for _, step := range []float32{0, minusZero, tiny, 0.25, n.share(), 1} {
				g, e := water.Breach(f, step)
				wantField(t, "Breach", g, e, breached(f, step))
			}
		}
	}
}

// P81: known ways.
func TestKnownBreaches(t *testing.T) {
	f := of(0, 0, 7, 3,
		9, 9, 9, 9, 9, 9, 9,
		9, 2, 7, 8, 1, 5, 4,
		9, 9, 9, 9, 9, 9, 9)
	g, e := water.Breach(f, 0.5)
	wantField(t, "Breach", g, e, of(0, 0, 7, 3,
		9, 9, 9, 9, 9, 9, 9,
		9, 2, 1.5, 1, 0.5, 0, -0.5,
		9, 9, 9, 9, 9, 9, 9))
	// The first way ends at a cell that is lower, or just as low; from that one the second way is cut.
	for _, step := range []float32{0.25, 0.3125} {
		g, e = water.Breach(f, step)
		wantField(t, "Breach", g, e, of(0, 0, 7, 3,
			9, 9, 9, 9, 9, 9, 9,
			9, 2, 2-step, 2-2*step, 1, 1-step, 1-2*step,
			9, 9, 9, 9, 9, 9, 9))
	}
	f.V[11] = 0.5
	g, e = water.Breach(f, 0.5)
	wantField(t, "Breach", g, e, of(0, 0, 7, 3,
		9, 9, 9, 9, 9, 9, 9,
		9, 2, 1.5, 1, 0.5, 0, -0.5,
		9, 9, 9, 9, 9, 9, 9))
	f.V[11] = 1
	g, e = water.Breach(f, 0)
	wantField(t, "Breach", g, e, of(0, 0, 7, 3,
		9, 9, 9, 9, 9, 9, 9,
		9, 2, 2, 2, 1, 1, 1,
		9, 9, 9, 9, 9, 9, 9))
	for _, f := range []api.Field{row(3, 1, 3), bowl(5, 6), of(0, 0, 2, 3, 5, 5, 1, 1, 5, 5)} {
		g, e = water.Breach(f, 1)
		wantField(t, "Breach of ground without pits", g, e, f)
	}
	// In flat ground each cell that is not of the border is a pit, as long as no way passes beside it.
	g, e = water.Breach(bowl(5, 5), 0.25)
	wantField(t, "Breach", g, e, of(0, 0, 3, 3, 5, 5, 5, 5, 5, 4.75, 5, 5, 5))
	g, e = water.Breach(bowl(5, 5), 0)
	wantField(t, "Breach", g, e, bowl(5, 5))
}

// P81, G7: the errors, in their order; ground that is cut below all heights.
func TestBreachErrors(t *testing.T) {
	for _, s := range badSingles(0, 1) {
		g, e := water.Breach(bowl(1, 0), s.v)
		wantNoField(t, "Breach", g, e, s.want)
		for _, b := range badFields() {
			g, e = water.Breach(b.f, s.v)
			wantNoField(t, "Breach", g, e, b.want)
		}
	}
	g, e := water.Breach(bowl(0, -top), 0.125)
	wantNoField(t, "Breach below all heights", g, e, api.ErrRange)
	g, e = water.Breach(bowl(0, 0.125-top), 0.125)
	wantField(t, "Breach", g, e, of(0, 0, 3, 3, 0, 0, 0, 0, 0.125-top, -top, 0, 0, 0))
	g, e = water.Breach(bowl(0, -top), 0)
	wantField(t, "Breach", g, e, of(0, 0, 3, 3, 0, 0, 0, 0, -top, -top, 0, 0, 0))
}

// beds has rivers in a region, with amounts for it.
func (n *numbers) beds(r api.Region) ([]api.River, []int) {
	dirs := n.downhill(r)
	amounts := gathered(r, dirs, n.list(r.W*r.H, func() int { return n.between(0, 3) }))
	l := riversOf(r, dirs, amounts, n.between(1, 3))
	if len(l) > 4 {
		l = l[:4] // rivers whose ends are not cut, because no other one begins there
		for i := range l {
			l[i].Into = n.between(-1, 3)
		}
	}
	amounts[n.between(0, len(amounts)-1)] += 1 // so that not all are 0
	return l, amounts
}

// P82, G6: beds, with each operation rounded.
func TestBed(t *testing.T) {
	n := &numbers{state: 25}
	for range 20 {
		for _, f := range n.fields(top / 2) {
			l, amounts := n.beds(f.Region)
			for _, depth := range []float32{0, minusZero, 0.3, 1024 * n.share()} {
				g, e := water.Bed(f, l, amounts, depth)
				wantField(t, "Bed", g, e, bedded(f, l, amounts, depth))
			}
		}
	}
}

// P82: known beds: ends, cells that occur several times, cells without water, and no river.
func TestKnownBeds(t *testing.T) {
	f := of(2, 3, 4, 1, 10, 10, 10, 10)
	amounts := []int{1, 4, 16, 0}
	line := []api.Point{at(2, 3), at(3, 3), at(4, 3), at(5, 3)}
	for _, s := range []struct {
		l    []api.River
		want []float32
	}{
		{nil, []float32{10, 10, 10, 10}},
		{[]api.River{{Points: line, Order: 1, Into: -1}}, []float32{8, 6, 2, 10}},
		{[]api.River{{Points: line[:3], Order: 1, Into: -1}}, []float32{8, 6, 2, 10}},
		{[]api.River{{Points: line[:3], Order: 1}}, []float32{8, 6, 10, 10}},
		{[]api.River{{Points: line[:3], Order: 1, Into: 1}, {Points: line[2:], Order: 1, Into: -1}}, []float32{8, 6, 2, 10}},
		{[]api.River{{Points: line[2:], Order: 1, Into: -1}, {Points: line[:3], Order: 1, Into: 1}}, []float32{8, 6, 2, 10}},
		{[]api.River{{Points: line[1:2], Order: 1, Into: -1}, {Points: []api.Point{line[1], line[0], line[1], line[2]}, Order: 1, Into: 0}}, []float32{8, 6, 10, 10}},
		{[]api.River{{Points: line[:1], Order: 1, Into: 0}}, []float32{10, 10, 10, 10}},
		{[]api.River{{Points: line[3:], Amount: 1 << 40, Order: 1, Into: -1}}, []float32{10, 10, 10, 10}},
	} {
		g, e := water.Bed(f, s.l, amounts, 8)
		wantField(t, "Bed", g, e, api.Field{Region: f.Region, V: s.want})
	}
	// The product comes ahead of the quotient.
	g, e := water.Bed(row(0, 0), []api.River{{Points: []api.Point{at(0, 0)}, Order: 1, Into: -1}}, []int{3, 7}, 0.1)
	wantField(t, "Bed", g, e, row(-over(times(0.1, root(3)), root(7)), 0))
	g, e = water.Bed(row(0, 0), []api.River{{Points: []api.Point{at(0, 0), at(1, 0)}, Order: 1, Into: -1}}, []int{1 << 38, 1 << 40}, 1024)
	wantField(t, "Bed", g, e, row(-512, -1024))
	// Without a river amounts that are all 0 are right.
	g, e = water.Bed(f, nil, []int{0, 0, 0, 0}, 8)
	wantField(t, "Bed", g, e, f)
}

// badBed are arguments of Bed with what is said of them.
type badBed struct {
	f       api.Field
	l       []api.River
	amounts []int
	depth   float32
	want    api.Errno
}

func badBeds() []badBed {
	f, four := of(0, 0, 2, 2, 1, 2, 3, -top), []int{1, 2, 3, 4}
	good := api.River{Points: []api.Point{at(0, 0), at(1, 0)}, Order: 1, Into: -1}
	out := api.River{Points: []api.Point{at(1, 1), at(2, 1)}, Order: 1, Into: 1}
	bad := api.River{Points: []api.Point{at(0, 0), at(9, 0)}, Order: 1, Into: 0}
	var l []badBed
	for _, s := range badFields() {
		l = append(l, badBed{s.f, []api.River{bad}, nil, nan, s.want}, badBed{s.f, []api.River{good}, ones(s.f), 1, s.want})
	}
	for _, s := range badSingles(-top, top) {
		l = append(l, badBed{f, []api.River{bad}, nil, s.v, s.want}, badBed{f, nil, four, s.v, s.want})
	}
	for _, s := range badSingles(0, 1024) {
		l = append(l, badBed{f, nil, four, s.v, s.want}, badBed{f, []api.River{good}, make([]int, 4), s.v, s.want})
	}
	for _, s := range badRivers() {
		l = append(l, badBed{f, []api.River{out, s.v}, nil, -1, s.want}, badBed{f, []api.River{s.v, out}, four, 1, s.want})
	}
	for _, amounts := range [][]int{nil, {1, 2, 3}, {1, 2, 3, 4, 5}, {-1}} {
		l = append(l, badBed{f, []api.River{good, out}, amounts, -1, api.ErrForm}, badBed{f, nil, amounts, 1, api.ErrForm})
	}
	for _, n := range outside(0, 1<<40) {
		l = append(l, badBed{f, []api.River{good, out}, []int{1, n, 3, 4}, -1, api.ErrRange}, badBed{f, nil, []int{1, 2, 3, n}, 1, api.ErrRange})
	}
	for _, p := range []api.Point{at(-1, 0), at(0, -1), at(2, 0), at(0, 2), at(api.MaxPlace, 0), at(2, 1)} {
		l = append(l, badBed{f, []api.River{good, {Points: []api.Point{p}, Order: 1}}, four, -1, api.ErrPlace}, badBed{f, []api.River{{Points: []api.Point{p}, Order: 1, Into: -1}}, make([]int, 4), 1, api.ErrPlace})
	}
	long := zigzag(api.MaxText)
	return append(l,
		badBed{f, slices.Repeat([]api.River{{}}, api.MaxCells+1), nil, -1, api.ErrLarge},
		badBed{f, []api.River{good}, make([]int, 4), 1, api.ErrEmpty}, badBed{f, []api.River{good, good}, make([]int, 4), 0, api.ErrEmpty},
		badBed{f, []api.River{good, long, out}, four, 1, api.ErrPlace}, badBed{f, []api.River{long}, four, 1, api.OK},
		badBed{f, []api.River{{Points: []api.Point{at(1, 1)}, Order: 1, Into: -1}}, four, 1, api.ErrRange},
	)
}

// P82, G7: the errors, in their order. That a text of the rivers would be too long is none.
func TestBedErrors(t *testing.T) {
	for i, s := range badBeds() {
		g, e := water.Bed(s.f, s.l, s.amounts, s.depth)
		switch {
		case s.want == api.OK:
			wantField(t, "Bed", g, e, of(0, 0, 2, 2, 0.5, 2-root2/2, 3, -top))
		case e != s.want || g.Region != (api.Region{}) || len(g.V) != 0:
			t.Errorf("Bed %d: got %v, error %d; want error %d", i, g, e, s.want)
		}
	}
	f := row(-1, math.MaxInt16)
	l := []api.River{{Points: []api.Point{at(0, 0)}, Order: 1, Into: -1}}
	g, e := water.Bed(f, l, []int{1, 0}, 1024)
	wantField(t, "Bed", g, e, row(-1025, math.MaxInt16))
	g, e = water.Bed(row(1024-top), l, []int{1}, 1024)
	wantField(t, "Bed", g, e, row(-top))
	g, e = water.Bed(row(before(before(1024-top))), l, []int{1}, 1024)
	wantNoField(t, "Bed below all heights", g, e, api.ErrRange)
}
