package plant_test

import (
	"slices"
	"testing"

	"tarnfell/api"
	"tarnfell/noise"
	"tarnfell/plant"
)

func sameGround(a, b api.Ground) bool {
	return sameBits(a.Height, b.Height) && sameBits(a.Slope, b.Slope) && sameBits(a.Wet, b.Wet)
}

func wantGround(t *testing.T, what string, g api.Ground, e api.Errno, want api.Ground) {
	t.Helper()
	if e != api.OK || !sameGround(g, want) {
		t.Errorf("%s: got %v, error %d; want %v", what, g, e, want)
	}
}

func wantNoGround(t *testing.T, what string, g api.Ground, e, want api.Errno) {
	t.Helper()
	wantRefused(t, what, !sameGround(g, api.Ground{}), e, want)
}

// P122: known ground: only the cells beside one, not across its corners, make its slope.
func TestGround(t *testing.T) {
	f := of(-1, 4, 3, 3,
		90, 2, -90,
		5, 1, 1.5,
		-80, -3, 70)
	wet := of(-1, 4, 3, 3,
		1, -1, minusZero,
		0, 7, -tiny,
		top, -top, 0.5)
	for p, want := range map[api.Point]api.Ground{
		at(0, 5):  {Height: 1, Slope: 4, Wet: 7},
		at(-1, 4): {Height: 90, Slope: 88, Wet: 1},
		at(0, 4):  {Height: 2, Slope: 92},
		at(1, 4):  {Height: -90, Slope: 92, Wet: minusZero},
		at(-1, 5): {Height: 5, Slope: 85},
		at(1, 5):  {Height: 1.5, Slope: 91.5},
		at(-1, 6): {Height: -80, Slope: 85, Wet: top},
		at(0, 6):  {Height: -3, Slope: 77},
		at(1, 6):  {Height: 70, Slope: 73, Wet: 0.5},
	} {
		g, e := plant.Ground(f, wet, p.X, p.Y)
		wantGround(t, "Ground", g, e, want)
	}
	g, e := plant.Ground(row(minusZero), row(3), 0, 0)
	wantGround(t, "Ground", g, e, api.Ground{Height: minusZero, Wet: 3})
	g, e = plant.Ground(row(0, minusZero), row(1, 1), 1, 0)
	wantGround(t, "Ground", g, e, api.Ground{Height: minusZero, Wet: 1})
	g, e = plant.Ground(row(top, 0), row(1, 1), 1, 0)
	wantGround(t, "Ground", g, e, api.Ground{Slope: top, Wet: 1})
}

// P122: bit by bit the formulas, and ErrRange, if the slope is no height.
func TestGroundByChance(t *testing.T) {
	n := &numbers{state: 4}
	tooSteep := 0
	for _, w := range n.woods(9) {
		eachCell(w.f.Region, func(x, y int) float32 {
			want := groundOf(w.f, w.wet, x, y)
			g, e := plant.Ground(w.f, w.wet, x, y)
			if want.Slope > top {
				tooSteep++
				wantNoGround(t, "Ground", g, e, api.ErrRange)
			} else {
				wantGround(t, "Ground", g, e, want)
			}
			return 0
		})
	}
	if tooSteep == 0 {
		t.Error("no slope is no height")
	}
}

// P122: errors, and their order.
func TestGroundErrors(t *testing.T) {
	good := row(1, 2, 3)
	for _, s := range badFields() {
		for _, x := range []int{0, 1 << 40} {
			g, e := plant.Ground(s.f, good, x, 0)
			wantNoGround(t, "Ground", g, e, s.want)
			g, e = plant.Ground(good, s.f, x, 0)
			wantNoGround(t, "Ground", g, e, s.want)
			g, e = plant.Ground(s.f, row(nan), x, 0)
			wantNoGround(t, "Ground", g, e, s.want)
		}
	}
	for _, other := range otherRegions() {
		g, e := plant.Ground(good, other, 1, 0)
		wantNoGround(t, "Ground", g, e, api.ErrPlace)
	}
	f, wet := of(-2, 5, 3, 2, 1, 2, 3, 4, 5, 6), of(-2, 5, 3, 2, 1, 2, 3, 4, 5, 6)
	for _, n := range outside(-2, 0) {
		g, e := plant.Ground(f, wet, n, 5)
		wantNoGround(t, "Ground", g, e, api.ErrPlace)
	}
	for _, n := range outside(5, 6) {
		g, e := plant.Ground(f, wet, 0, n)
		wantNoGround(t, "Ground", g, e, api.ErrPlace)
	}
	cliff := row(top, -tiny*0x1p60, -top)
	g, e := plant.Ground(cliff, cliff, 0, 0)
	wantGround(t, "Ground", g, e, api.Ground{Height: top, Slope: top, Wet: top})
	for _, edge := range []api.Field{row(top, -1), row(-1, top), of(0, 0, 1, 2, -top, 0.125), of(0, 0, 1, 2, 0.125, -top)} {
		g, e := plant.Ground(edge, edge, edge.X, edge.Y)
		wantNoGround(t, "Ground", g, e, api.ErrRange)
	}
}

// P122: Fitness is Suit of each cell, and 0, where the slope is no height.
func TestFitness(t *testing.T) {
	f, wet := of(3, -2, 4, 1, 5, 6, 12, 12), of(3, -2, 4, 1, 0, 1.5, -9, 1)
	g, e := plant.Fitness(f, wet, calm())
	wantField(t, "Fitness", g, e, of(3, -2, 4, 1, 0.75, 0, 0, 0.5))
	cliff := row(5, 5, -top, top, 5, 5)
	g, e = plant.Fitness(cliff, flat(cliff.Region, 0), like("a", func(k *api.Kind) { k.Low, k.High, k.Steep = -top, top, top }))
	wantField(t, "Fitness", g, e, row(1, 0, 0, 0, minus(1, times(0.5, over(top-5, top))), 1))
	n := &numbers{state: 5}
	for _, w := range n.woods(9) {
		for _, k := range w.l {
			g, e := plant.Fitness(w.f, w.wet, k)
			wantField(t, "Fitness", g, e, eachCell(w.f.Region, func(x, y int) float32 { return suitOf(k, groundOf(w.f, w.wet, x, y)) }))
			eachCell(w.f.Region, func(x, y int) float32 {
				v := g.V[(y-g.Y)*g.W+x-g.X]
				if ground, e := plant.Ground(w.f, w.wet, x, y); e == api.OK {
					s, e := plant.Suit(k, ground)
					wantSingle(t, "Suit", s, e, v)
				} else if v != 0 {
					t.Error("Fitness", v, "where the slope is no height")
				}
				return 0
			})
		}
	}
}

// dense are kinds whose plants may stand in all cells.
func dense(n *numbers, many int) []api.Kind {
	l := n.kinds(many)
	for i := range l {
		l[i].Space = 0
	}
	return l
}

// P124: bit by bit the formulas, before and after the plants are thinned.
func TestSprouts(t *testing.T) {
	n := &numbers{state: 6}
	many, fewer := 0, 0
	for i, w := range n.woods(9) {
		l := dense(n, 1+i%4)
		want := sproutsOf(w.f, w.wet, l, uint32(i))
		p, e := plant.Sprouts(w.f, w.wet, l, uint32(i))
		wantPlants(t, "Sprouts", p, e, want)
		want = sproutsOf(w.f, w.wet, w.l, uint32(i))
		p, e = plant.Sprouts(w.f, w.wet, w.l, uint32(i))
		wantPlants(t, "Sprouts", p, e, apartOf(w.l, want))
		many += len(want)
		fewer += len(p)
	}
	if fewer == 0 || many < 2*fewer {
		t.Error("too few plants:", many, fewer)
	}
}

// P124: of several kinds that suit equally well the first one stands there, of others the best one, whatever their order is.
func TestSproutsOfTheBest(t *testing.T) {
	f := row(5)
	share := func(v float32) func(k *api.Kind) { return func(k *api.Kind) { k.Share = v } }
	for _, s := range []struct {
		l    []api.Kind
		want int
	}{
		{kinds(share(1), share(1)), 0}, {kinds(share(0.75), share(1), share(1)), 1}, {kinds(share(1), share(0.75)), 0}, {kinds(share(0), share(0), share(1), share(1)), 2},
		{kinds(func(k *api.Kind) { k.Low = 9 }, share(0.5)), 1}, {kinds(func(k *api.Kind) { k.Low = 7 }, share(0.5)), 0}, {kinds(share(0.5), func(k *api.Kind) { k.Low = 6 }), 1},
	} {
		// No seed gives 0, and one of these gives less than a half.
		for seed := range uint32(60) {
			p, e := plant.Sprouts(f, row(0), s.l, seed)
			if len(p) > 0 {
				wantPlants(t, "Sprouts", p, e, []api.Plant{{Kind: s.want}})
			} else if noise.Unit(noise.Hash(seed, 0, 0, 3)) < 0.5 {
				t.Error("Sprouts: nothing, error", e)
			}
		}
	}
}

// P124: a chance that is equal to the product is not less.
func TestSproutsByTheirShare(t *testing.T) {
	for seed := range uint32(200) {
		x := int(seed) * 7
		f, wet := of(x, 9, 1, 1, 5), of(x, 9, 1, 1, 0)
		chance := noise.Unit(noise.Hash(seed, x, 9, 3))
		for share, many := range map[float32]int{chance: 0, after(chance): 1, before(chance): 0, 1: 1, 0: 0} {
			p, e := plant.Sprouts(f, wet, kinds(func(k *api.Kind) { k.Share = share }), seed)
			wantPlants(t, "Sprouts", p, e, []api.Plant{{X: x, Y: 9}}[:many])
		}
	}
}

// P124: ErrLarge, if there would be more than MaxPlants, however many would stay.
func TestSproutsErrors(t *testing.T) {
	r := region(0, 0, 89, 45)
	for _, space := range []int{0, 32} {
		for _, dead := range []int{5, 4} {
			wet := flat(r, 0)
			for i := range dead {
				wet.V[i*100] = 9
			}
			p, e := plant.Sprouts(flat(r, 5), wet, kinds(spaced(space)), 1)
			if dead == 4 {
				wantNoList(t, "Sprouts", p, e, api.ErrLarge)
			} else if e != api.OK || space == 0 && len(p) != api.MaxPlants || len(p) == 0 {
				t.Error("Sprouts", len(p), e)
			}
		}
	}
	large := flat(region(0, 0, 512, 128), 5)
	p, e := plant.Sprouts(large, large, kinds(func(k *api.Kind) { k.Damp = 9 }), 1)
	wantNoList(t, "Sprouts", p, e, api.ErrLarge)
	p, e = plant.Sprouts(large, large, kinds(func(k *api.Kind) { k.Share = 0 }), 1)
	wantNoList(t, "Sprouts", p, e, api.OK)
}

// P134: before they are thinned, sprouts hang on places alone, but for those at the edge of the field.
func TestSproutsHangOnPlaces(t *testing.T) {
	n := &numbers{state: 7}
	for seed := range uint32(40) {
		l := dense(n, 3)
		r := region(-7, 3, 20, 16)
		f := n.field(r, func() float32 { return n.single() * 2 })
		wet := n.field(r, n.share)
		all, e := plant.Sprouts(f, wet, l, seed)
		wantError(t, "Sprouts", e, api.OK)
		part := region(-3, 6, 11, 9)
		cut := func(f api.Field) api.Field {
			return eachCell(part, func(x, y int) float32 { v, _ := find(f, x, y); return v })
		}
		some, e := plant.Sprouts(cut(f), cut(wet), l, seed)
		within := func(p []api.Plant) []api.Plant {
			return slices.DeleteFunc(slices.Clone(p), func(v api.Plant) bool { return v.X <= -3 || v.Y <= 6 || v.X >= 7 || v.Y >= 14 })
		}
		wantPlants(t, "Sprouts", within(some), e, within(all))
	}
}
