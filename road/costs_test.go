package road_test

import (
	"math"
	"slices"
	"testing"

	"tarnfell/api"
	"tarnfell/road"
)

func wantStep(t *testing.T, f api.Field, s api.RoadRules, a, b api.Point, want float32, wanted bool) {
	t.Helper()
	cost, is, e := road.StepCost(f, s, a, b)
	if e != api.OK || is != wanted || !sameBits(cost, want) {
		t.Errorf("StepCost from %v to %v: got %v, %v, error %d; want %v, %v", a, b, cost, is, e, want, wanted)
	}
}

// P101, G6: all steps between two cells, of fields and rules of several forms.
func TestStepCost(t *testing.T) {
	n := &numbers{state: 1}
	possible, bridges := 0, 0
	for _, f := range n.fields(2000) {
		for _, s := range n.rules(f.Region) {
			for range 300 {
				a := n.in(f.Region)
				b := ahead(a, n.between(0, 7), n.between(0, 13))
				if n.between(0, 9) == 0 || !covers(f.Region, b) {
					b = n.in(f.Region)
				}
				want, wanted := costOf(f, s, a, b)
				wantStep(t, f, s, a, b, want, wanted)
				if _, k := bearing(a, b); wanted {
					possible++
					bridges += min(1, k/2)
				}
			}
		}
	}
	if possible < 10000 || bridges < 1000 {
		t.Error("too few steps are possible:", possible, bridges)
	}
}

// P101: known steps to neighbours.
func TestStepCostOfNeighbours(t *testing.T) {
	f := of(4, -2, 3, 3, 0, 3, 0, 1, 2, 4, 0, 0, 5)
	s := api.RoadRules{Grade: 2, Weight: 3, Bridge: 1}
	wantStep(t, f, s, at(5, -1), at(4, -1), 4, true)
	wantStep(t, f, s, at(4, -1), at(5, -1), 4, true)
	wantStep(t, f, s, at(5, -1), at(6, -1), 13, true)
	wantStep(t, f, s, at(5, -1), at(5, -2), 4, true)
	wantStep(t, f, s, at(5, -1), at(5, 0), 13, true)
	// The grade of a diagonal step is that of its length; its cost, too.
	g := over(2, root2)
	wantStep(t, f, s, at(5, -1), at(4, -2), times(root2, plus(1, times(times(3, g), g))), true)
	g = over(3, root2)
	wantStep(t, f, s, at(5, -1), at(6, 0), 0, false)
	s.Grade = g
	wantStep(t, f, s, at(5, -1), at(6, 0), times(root2, plus(1, times(times(3, g), g))), true)
	s.Grade = before(g)
	wantStep(t, f, s, at(5, -1), at(6, 0), 0, false)
	// A grade that is just the greatest one is possible.
	s.Grade = 2
	wantStep(t, f, s, at(6, -1), at(5, -1), 13, true)
	s.Grade = before(2)
	wantStep(t, f, s, at(6, -1), at(5, -1), 0, false)
	s.Grade = 0
	wantStep(t, f, s, at(4, 0), at(5, 0), 1, true)
	wantStep(t, f, s, at(4, 0), at(4, -1), 0, false)
	// A cell is no step from itself.
	wantStep(t, f, s, at(4, 0), at(4, 0), 0, false)
}

// P101: the ground's own costs are those of the cell to which a step leads, and no matter of bridges.
func TestStepCostOfCostlyGround(t *testing.T) {
	f := row(2, 0, 2, 2)
	s := api.RoadRules{Grade: 2, Weight: 0.5, Bridge: 3, Dear: 0.25, Span: 2, Costly: []api.Field{row(1, 0.5, 7, minusZero)}}
	wantStep(t, f, s, at(0, 0), at(1, 0), 4.5, true)
	wantStep(t, f, s, at(1, 0), at(0, 0), 6, true)
	wantStep(t, f, s, at(1, 0), at(2, 0), 24, true)
	wantStep(t, f, s, at(2, 0), at(3, 0), 1, true)
	wantStep(t, f, s, at(3, 0), at(2, 0), 8, true)
	wantStep(t, f, s, at(0, 0), at(2, 0), 6.25, true)
	wantStep(t, f, s, at(2, 0), at(0, 0), 6.25, true)
}

// P101: bridges in all directions, over as many steps as Span permits.
func TestStepCostOfBridges(t *testing.T) {
	f := flat(region(-20, -30, 25, 25), -1)
	middle := at(-8, -18)
	rise := func(p api.Point, v float32) { f.V[(p.Y+30)*25+p.X+20] = v }
	rise(middle, 5)
	for d := range 8 {
		for n := 2; n <= 12; n++ {
			end := ahead(middle, d, n)
			rise(end, 5)
			long := []float32{float32(n), times(float32(n), root2)}[d%2]
			for span := 0; span <= 12; span++ {
				s := api.RoadRules{Bridge: 1.7, Dear: 0.3, Span: span}
				if span == 1 {
					continue
				}
				if span < n {
					wantStep(t, f, s, middle, end, 0, false)
				} else {
					wantStep(t, f, s, middle, end, plus(times(long, 1.7), 0.3), true)
					wantStep(t, f, s, end, middle, plus(times(long, 1.7), 0.3), true)
				}
			}
			rise(end, -1)
		}
	}
	// In no direction there is neither a bridge nor a step.
	s := api.RoadRules{Grade: 1024, Bridge: 1, Span: 12}
	for _, p := range places(-7, -16, -6, -17, -9, -20, 0, -11, -20, -29) {
		rise(p, 5)
		wantStep(t, f, s, middle, p, 0, false)
	}
}

// P101: the cells below a bridge are lower than both ends; the grade is that of its whole length.
func TestStepCostOfBridgesOverGround(t *testing.T) {
	s := api.RoadRules{Grade: 1, Bridge: 2, Dear: 1, Span: 12}
	for _, c := range []struct {
		f        api.Field
		possible bool
	}{
		{row(2, 0, 0, 3), true},
		{row(2, before(2), 1, 3), true},
		{row(2, 1, before(2), 3), true},
		{row(2, 2, 0, 3), false},
		{row(2, 0, 2, 3), false},
		{row(2, 2.5, 0, 3), false},
		{row(2, 0, 4, 3), false},
		{row(3, 0, 2, 2), false},
		{row(3, 2, 0, 2), false},
		{row(2, 0, 0, 5), true},
		{row(2, 0, 0, after(5)), false},
		{row(5, 0, 0, 2), true},
		{row(after(5), 0, 0, 2), false},
		{row(0, minusZero, -1, 0), false},
		{row(minusZero, -1, 0, 0), false},
		{row(0, -1, -tiny, minusZero), true},
		{row(top, -top, -top, top), true},
	} {
		for _, f := range []api.Field{c.f, {Region: region(0, 0, 1, 4), V: c.f.V}} {
			cost := float32(0)
			if c.possible {
				cost = 7
			}
			wantStep(t, f, s, at(0, 0), at(f.W-1, f.H-1), cost, c.possible)
			wantStep(t, f, s, at(f.W-1, f.H-1), at(0, 0), cost, c.possible)
		}
	}
}

// P101, P102: places that are not in the field.
func TestPlacesOutside(t *testing.T) {
	f := of(4, 5, 2, 3, 1, 1, 1, 1, 1, 1)
	inside := at(5, 7)
	for _, p := range places(3, 5, 6, 5, 4, 4, 4, 8, 0, 0, math.MinInt, math.MaxInt, math.MaxInt, 5, 4, 1<<32+5) {
		for _, pair := range [][2]api.Point{{inside, p}, {p, inside}, {p, p}} {
			cost, is, e := road.StepCost(f, plain(), pair[0], pair[1])
			wantNoSingle(t, "StepCost", cost, e, api.ErrPlace)
			way, price, e := road.Way(f, plain(), pair[0], pair[1])
			wantNoList(t, "Way", way, e, api.ErrPlace)
			if is || price != 0 {
				t.Error("a result with an error", is, price)
			}
		}
		l, is, e := road.Costs(f, plain(), p)
		wantNoLeast(t, "Costs", l, is, e, api.ErrPlace)
		near, e := road.Within(f, plain(), p, nan)
		wantNoList(t, "Within", near, e, api.ErrPlace)
		price, e := road.Price(f, plain(), []api.Point{inside, p})
		wantNoSingle(t, "Price", price, e, api.ErrPlace)
	}
}

// P102, P111, P283, G6: Costs, Way, Within and Price on fields and by rules of several forms.
func TestWays(t *testing.T) {
	n := &numbers{state: 2}
	found, bridges := 0, 0
	for _, f := range n.fields(2000) {
		for _, s := range n.rules(f.Region) {
			links := linksOf(f, s)
			from := n.between(0, len(f.V)-1)
			prices, is := leastPrices(len(f.V), links, from)
			start := placeOf(f.Region, from)
			l, can, e := road.Costs(f, s, start)
			wantLeast(t, "Costs", l, can, e, prices, is)
			wantWithin(t, f, s, start, prices, is)
			for range 6 {
				to := n.between(0, len(f.V)-1)
				end := placeOf(f.Region, to)
				way, price, e := road.Way(f, s, start, end)
				if !is[to] {
					wantNoList(t, "Way", way, e, api.ErrNone)
					wantNoSingle(t, "Way", price, e, api.ErrNone)
					continue
				}
				wantList(t, "Way", way, e, placesOf(f.Region, wayOf(len(f.V), links, from, to))...)
				wantSingle(t, "Way", price, e, prices[to])
				price, e = road.Price(f, s, way)
				wantSingle(t, "Price", price, e, prices[to])
				numbers, _ := road.Bridges(way)
				found, bridges = found+1, bridges+len(numbers)
			}
		}
	}
	if found < 1000 || bridges < 300 {
		t.Error("too few ways:", found, bridges)
	}
}

// wantWithin asks for the cells up to some prices, and up to just below them.
func wantWithin(t *testing.T, f api.Field, s api.RoadRules, start api.Point, prices []float32, is []bool) {
	t.Helper()
	for _, most := range []float32{0, 1, before(1), prices[0], before(prices[len(prices)-1]), top, -1, -tiny, minusZero} {
		if most > top {
			continue
		}
		var want []api.Point
		for i, price := range prices {
			if is[i] && price <= most {
				want = append(want, placeOf(f.Region, i))
			}
		}
		l, e := road.Within(f, s, start, most)
		wantList(t, "Within", l, e, want...)
	}
}

// P102: the errors of the price of Within.
func TestWithinErrors(t *testing.T) {
	for _, s := range badSingles(-top, top) {
		l, e := road.Within(row(1, 2), plain(), at(0, 0), s.v)
		wantNoList(t, "Within", l, e, s.want)
	}
	l, e := road.Within(row(1, 1), plain(), at(0, 0), -top)
	wantList(t, "Within", l, e)
	l, e = road.Within(row(1, 1, 9, 1), plain(), at(1, 0), top)
	wantList(t, "Within", l, e, places(0, 0, 1, 0)...)
}

func wantWay(t *testing.T, f api.Field, s api.RoadRules, price float32, way ...api.Point) {
	t.Helper()
	l, p, e := road.Way(f, s, way[0], way[len(way)-1])
	wantList(t, "Way", l, e, way...)
	wantSingle(t, "Way", p, e, price)
}

// P102: known ways.
func TestKnownWays(t *testing.T) {
	one := of(7, 8, 1, 1, 3)
	wantWay(t, one, plain(), 0, at(7, 8))
	l, is, e := road.Costs(one, plain(), at(7, 8))
	wantLeast(t, "Costs", l, is, e, []float32{0}, []bool{true})
	// A wall with a gate.
	f := of(0, 0, 5, 3, 0, 0, 9, 0, 0, 0, 0, 9, 0, 0, 0, 0, 0, 0, 0)
	wantWay(t, f, plain(), plus(plus(plus(root2, root2), root2), 1), places(0, 0, 1, 1, 2, 2, 3, 1, 4, 1)...)
	// The first ones in the order of cells, going back from the end: not the first one of all lists of places.
	wantWay(t, flat(region(0, 0, 5, 2), 1), plain(), plus(plus(plus(root2, 1), 1), 1), places(0, 1, 1, 0, 2, 0, 3, 0, 4, 0)...)
	wantWay(t, flat(region(0, 0, 5, 2), 1), plain(), plus(plus(plus(1, 1), 1), root2), places(0, 0, 1, 0, 2, 0, 3, 0, 4, 1)...)
	wantWay(t, flat(region(0, 0, 2, 4), 1), plain(), plus(plus(1, 1), root2), places(0, 0, 0, 1, 0, 2, 1, 3)...)
	// A bridge that costs as much as going has fewer steps.
	s := api.RoadRules{Grade: 1, Bridge: 1, Span: 12}
	wantWay(t, row(0, -1, 0, 0), s, 3, places(0, 0, 2, 0, 3, 0)...)
	s.Dear = tiny
	wantWay(t, row(0, -1, 0, 0), s, 3, places(0, 0, 2, 0, 3, 0)...)
	s.Dear = 0.25
	wantWay(t, row(0, -1, 0, 0), s, 3, places(0, 0, 1, 0, 2, 0, 3, 0)...)
	// What is costly to enter is cheap to leave.
	s = api.RoadRules{Bridge: 1, Costly: []api.Field{row(0, 0, 6)}}
	wantWay(t, row(1, 1, 1), s, 8, places(0, 0, 1, 0, 2, 0)...)
	wantWay(t, row(1, 1, 1), s, 2, places(2, 0, 1, 0, 0, 0)...)
}

// P102: where a price is so great that further steps change nothing, all steps are tight, but the way with the fewest ones is the way.
func TestWaysOfGreatPrices(t *testing.T) {
	f := flat(region(0, 0, 8, 8), 0)
	for y := range 8 {
		f.V[y*8] = 1024
	}
	s := api.RoadRules{Grade: 1024, Weight: 1024, Bridge: 1}
	g := over(1024, root2)
	price := times(root2, plus(1, times(times(1024, g), g)))
	if plus(price, root2) != price {
		t.Fatal("the price is too small")
	}
	wantWay(t, f, s, price, places(0, 0, 1, 1, 2, 0, 3, 1, 4, 2, 5, 3, 6, 4, 7, 5)...)
	wantWay(t, f, s, price, places(0, 0, 1, 1, 2, 0, 3, 0)...)
	n := &numbers{state: 3}
	for range 20 {
		f = n.field(region(3, 4, 7, 6), func() float32 { return [4]float32{0, 0, 0, 1000}[n.between(0, 3)] })
		links := linksOf(f, s)
		for from := range f.V {
			to := n.between(0, len(f.V)-1)
			way, _, e := road.Way(f, s, placeOf(f.Region, from), placeOf(f.Region, to))
			wantList(t, "Way", way, e, placesOf(f.Region, wayOf(len(f.V), links, from, to))...)
		}
	}
}

// P111, P283: no way by chance is cheaper, and no beginning of a way is dearer.
func TestNoWayIsCheaper(t *testing.T) {
	n := &numbers{state: 4}
	possible := 0
	for _, f := range n.fields(3) {
		for _, s := range n.rules(f.Region) {
			for range 20 {
				walk := n.way(f.Region, 9, 12)
				price, e := road.Price(f, s, walk)
				if e == api.ErrNone {
					continue
				}
				possible++
				way, least, e := road.Way(f, s, walk[0], walk[len(walk)-1])
				if e != api.OK || !(least <= price) {
					t.Error("a way by chance is cheaper", price, least, e)
				}
				for i := range way {
					begin, e := road.Price(f, s, way[:i+1])
					_, cheapest, _ := road.Way(f, s, way[0], way[i])
					if e != api.OK || begin > least || !sameBits(begin, cheapest) {
						t.Error("a beginning is dearer", begin, least, cheapest, e)
					}
				}
			}
		}
	}
	if possible < 500 {
		t.Error("too few ways are possible:", possible)
	}
}

// P283: no way by a third place is cheaper than the way, up to rounding.
func TestNoDetourIsCheaper(t *testing.T) {
	n := &numbers{state: 5}
	f := n.field(region(0, 0, 9, 9), n.single)
	for _, s := range n.rules(f.Region) {
		first, is, _ := road.Costs(f, s, at(4, 4))
		for i := range f.V {
			if !is[i] {
				continue
			}
			next, can, _ := road.Costs(f, s, placeOf(f.Region, i))
			for k := range f.V {
				if can[k] && (!is[k] || float64(first[k]) > (float64(first[i])+float64(next[k]))*1.00001) {
					t.Error("a detour is cheaper", i, k)
				}
			}
		}
	}
}

// P102: on the greatest fields there are bridges as elsewhere, and prices that are no heights.
func TestGreatestFields(t *testing.T) {
	f := flat(region(-256, -64, 512, 128), 0)
	for i := range f.V {
		if i%2 == 1 {
			f.V[i] = -1
		}
	}
	s := api.RoadRules{Bridge: 1024, Dear: 1024, Span: 2}
	l, is, e := road.Costs(f, s, at(-256, -64))
	if e != api.OK || !is[510] || l[510] != 255*3072 || is[511] {
		t.Error("Costs", l[510], is[510], is[511], e)
	}
	s = api.RoadRules{Grade: 1, Weight: 1024, Bridge: 1, Costly: []api.Field{flat(f.Region, 1024)}}
	way, price, e := road.Way(f, s, at(-256, -64), at(255, -64))
	if e != api.OK || !(price > top) || len(way) < 512 {
		t.Error("Way", len(way), price, e)
	}
	again, e := road.Price(f, s, way)
	wantSingle(t, "Price", again, e, price)
}

// P103: known prices.
func TestPrice(t *testing.T) {
	f := row(2, 0, 0, 3)
	s := api.RoadRules{Grade: 3, Weight: 0.5, Bridge: 2, Dear: 1, Span: 3}
	for _, c := range []struct {
		way   []api.Point
		price float32
	}{
		{places(2, 0), 0},
		{places(0, 0, 1, 0), 3},
		{places(0, 0, 3, 0), 7},
		{places(0, 0, 3, 0, 2, 0, 1, 0, 2, 0), 14.5},
		{places(3, 0, 0, 0, 1, 0, 0, 0, 3, 0), 20},
	} {
		price, e := road.Price(f, s, c.way)
		wantSingle(t, "Price", price, e, c.price)
	}
	price, e := road.Price(row(1, 1), plain(), long(api.MaxCells))
	wantSingle(t, "Price", price, e, api.MaxCells-1)
}

// P103, G6: the sum is in order; ways by chance are of one price with what StepCost says of their steps.
func TestPriceIsInOrder(t *testing.T) {
	n := &numbers{state: 6}
	for _, f := range n.fields(3) {
		for _, s := range n.rules(f.Region) {
			way := n.way(f.Region, 12, 13)
			want, possible := float32(0), true
			for i, p := range way[1:] {
				cost, is := costOf(f, s, way[i], p)
				want = plus(want, cost)
				possible = possible && is
			}
			price, e := road.Price(f, s, way)
			if possible {
				wantSingle(t, "Price", price, e, want)
			} else {
				wantNoSingle(t, "Price", price, e, api.ErrNone)
			}
		}
	}
}

// P103: the errors of Price, and their order: all places are asked for ErrPlace ahead of the steps.
func TestPriceErrors(t *testing.T) {
	f := row(0, 0, 5, 5)
	far := slices.Repeat(places(99, 0), api.MaxCells)
	for _, c := range []badWay{
		{nil, api.ErrEmpty}, {[]api.Point{}, api.ErrEmpty},
		{long(api.MaxCells + 1), api.ErrLarge}, {append(far, at(0, 0)), api.ErrLarge}, {far, api.ErrPlace},
		{places(4, 0), api.ErrPlace}, {places(0, 0, 0, 1), api.ErrPlace}, {places(0, 0, -1, 0, 0, 0), api.ErrPlace},
		{places(math.MinInt, 0, math.MaxInt, 0), api.ErrPlace},
		{places(0, 0, 3, 0, 4, 0), api.ErrPlace}, {places(0, 0, 0, 0, 0, 0, 4, 0), api.ErrPlace},
		{places(0, 0, 0, 0), api.ErrNone}, {places(0, 0, 1, 0, 2, 0), api.ErrNone}, {places(0, 0, 2, 0), api.ErrNone}, {places(0, 0, 1, 0, 3, 0, 2, 0), api.ErrNone},
	} {
		price, e := road.Price(f, plain(), c.way)
		wantNoSingle(t, "Price", price, e, c.want)
	}
	_, e := road.Price(row(2, 0, 2, 0, 2), api.RoadRules{Bridge: 1, Span: 2}, places(0, 0, 4, 0))
	wantError(t, "Price", e, api.ErrNone)
}
