package plant_test

import (
	"slices"
	"testing"

	"tarnfell/api"
	"tarnfell/plant"
)

// meadow is a wood of flat ground that suits kinds like calm.
func meadow(r api.Region, l []api.Kind, p []api.Plant) wood {
	return wood{flat(r, 5), flat(r, 0), l, p}
}

func grow(w wood) ([]api.Plant, api.Errno) { return plant.Grow(w.f, w.wet, w.l, w.p) }

func seeds(w wood, seed uint32, year int) ([]api.Plant, api.Errno) {
	return plant.Seeds(w.f, w.wet, w.l, w.p, seed, year)
}

func years(w wood, seed uint32, many int) ([]api.Plant, api.Errno) {
	return plant.Years(w.f, w.wet, w.l, w.p, seed, many)
}

// P127: known values.
func TestGrow(t *testing.T) {
	pace := func(pace, most float32) func(k *api.Kind) {
		return func(k *api.Kind) { k.Pace, k.Top, k.Space = pace, most, 1 }
	}
	l := kinds(pace(2, 8), pace(0, 8), pace(0.0625, top), pace(3, 0), pace(minusZero, minusZero))
	for _, s := range []struct {
		p, want []api.Plant
	}{
		{nil, nil},
		{[]api.Plant{{X: 4, Size: 1}}, []api.Plant{{X: 4, Size: 3, Age: 1}}},
		{[]api.Plant{{X: 4, Size: 5.5, Age: 998}}, []api.Plant{{X: 4, Size: 7.5, Age: 999}}},
		{[]api.Plant{{X: 4, Size: 6, Age: 999}}, []api.Plant{{X: 4, Size: 8, Age: 1000}}},
		{[]api.Plant{{X: 4, Size: 6.5}}, []api.Plant{{X: 4, Size: 8, Age: 1}}},
		{[]api.Plant{{X: 4, Size: 8}}, []api.Plant{{X: 4, Size: 8, Age: 1}}},
		// One dies of less than a part of 64, not of just this part.
		{[]api.Plant{{Kind: 2, Size: 4}}, []api.Plant{{Kind: 2, Size: 4.0625, Age: 1}}},
		{[]api.Plant{{Kind: 2, Size: after(4)}}, nil},
		{[]api.Plant{{Kind: 1}}, []api.Plant{{Kind: 1, Age: 1}}},
		{[]api.Plant{{Kind: 1, Size: minusZero}}, []api.Plant{{Kind: 1, Age: 1}}},
		{[]api.Plant{{Kind: 1, Size: 8}}, nil},
		{[]api.Plant{{Kind: 1, Size: 64 * tiny}}, nil},
		{[]api.Plant{{Kind: 3}}, []api.Plant{{Kind: 3, Age: 1}}},
		{[]api.Plant{{Kind: 4}}, []api.Plant{{Kind: 4, Age: 1}}},
		{[]api.Plant{{Kind: 4, Size: minusZero}}, []api.Plant{{Kind: 4, Size: minusZero, Age: 1}}},
		// All at once: each one is crowded by what the others were before.
		{[]api.Plant{{X: 0, Size: 4}, {X: 1, Size: 2}}, []api.Plant{{X: 0, Size: 5, Age: 1}, {X: 1, Size: 2 + 2/float32(3), Age: 1}}},
		// One that dies crowds others in its last year.
		{[]api.Plant{{Kind: 2, X: 0, Size: 6}, {X: 1, Size: 2}}, []api.Plant{{X: 1, Size: 2.5, Age: 1}}},
	} {
		p, e := grow(meadow(region(0, 0, 9, 1), l, s.p))
		wantPlants(t, "Grow", p, e, s.want)
	}
}

// P127: the ground says how much a plant grows, and where it dies; also where the slope is no height.
func TestGrowOnGround(t *testing.T) {
	l := kinds(func(k *api.Kind) { k.Space = 0 })
	f, wet := of(0, 0, 6, 1, 5, 6, 11, 11, -2, 5), of(0, 0, 6, 1, 0, 1.5, 0, -3, 1, 1)
	var p []api.Plant
	for x := range 6 {
		p = append(p, api.Plant{X: x})
	}
	// The ground falls by 13 on both sides of the cell 4, and by 5 beside the cell 2: there nothing grows, not even what has the Size 0.
	q, e := plant.Grow(f, wet, l, p)
	wantPlants(t, "Grow", q, e, []api.Plant{{Size: 1.5, Age: 1}})
	cliff := row(5, 5, top, -top, 5, 5)
	q, e = plant.Grow(cliff, flat(cliff.Region, 0), l, p)
	wantPlants(t, "Grow", q, e, []api.Plant{{Size: 2, Age: 1}, {X: 5, Size: 2, Age: 1}})
}

// P127, P134, P285: bit by bit the formulas; no plant becomes smaller, or greater than Top.
func TestGrowByChance(t *testing.T) {
	n := &numbers{state: 10}
	before, alive, larger := 0, 0, 0
	for _, w := range n.woods(999) {
		q, e := grow(w)
		wantPlants(t, "Grow", q, e, growOf(w))
		wantError(t, "CheckPlants", plant.CheckPlants(w.l, q), api.OK)
		for _, v := range q {
			i := slices.IndexFunc(w.p, func(o api.Plant) bool { return o.X == v.X && o.Y == v.Y })
			if v.Size < w.p[i].Size || v.Size > w.l[v.Kind].Top {
				t.Error("Grow", w.p[i], v)
			}
			if v.Size > w.p[i].Size {
				larger++
			}
		}
		before += len(w.p)
		alive += len(q)
	}
	if larger < 500 || before-alive < 500 || alive-larger < 50 {
		t.Error("too few cases:", before, alive, larger)
	}
}

// P127, P128, P129: ErrPlace, if one of all plants is not in the field, ahead of the other errors.
func TestPlantsInField(t *testing.T) {
	w := meadow(region(-2, 3, 3, 2), kinds(spaced(0)), nil)
	for _, v := range []api.Plant{{X: -3, Y: 3}, {X: 1, Y: 3}, {Y: 2}, {Y: 5}, {X: api.MaxPlace, Y: api.MaxPlace}, {X: -api.MaxPlace, Y: -api.MaxPlace}} {
		w.p = []api.Plant{v}
		if v.Y > 2 {
			w.p = []api.Plant{{Y: 3, X: -4, Age: 1000}, v}
		}
		for _, c := range allLanded() {
			some, e := c.call(w.f, w.wet, w.l, w.p)
			wantRefused(t, c.name, some, e, api.ErrPlace)
		}
		for _, n := range outside(0, 50) {
			p, e := seeds(w, 1, n)
			wantNoList(t, "Seeds", p, e, api.ErrPlace)
			p, e = years(w, 1, n)
			wantNoList(t, "Years", p, e, api.ErrPlace)
		}
	}
	w.p = []api.Plant{{X: -2, Y: 3}, {X: 0, Y: 3}, {X: -2, Y: 4}, {X: 0, Y: 4}}
	for _, c := range allLanded() {
		some, e := c.call(w.f, w.wet, w.l, w.p)
		if !some || e != api.OK {
			t.Errorf("%s: error %d", c.name, e)
		}
	}
}

// P127, P128, P129: an age that would be above MaxYears, also of one that dies.
func TestAges(t *testing.T) {
	old := api.Plant{X: 1, Size: 3, Age: api.MaxYears}
	for _, l := range [][]api.Kind{kinds(spaced(0)), kinds(func(k *api.Kind) { k.Pace = 0 }), kinds(func(k *api.Kind) { k.Low = 10 })} {
		w := meadow(region(0, 0, 4, 1), l, []api.Plant{{}, old, {X: 2}})
		p, e := grow(w)
		wantNoList(t, "Grow", p, e, api.ErrRange)
		p, e = years(w, 1, 1)
		wantNoList(t, "Years", p, e, api.ErrRange)
		p, e = years(w, 1, 0)
		wantPlants(t, "Years", p, e, w.p)
		p, e = seeds(w, 1, 1)
		wantPlants(t, "Seeds", p, e, seedsOf(w, 1, 1))
		w.p = []api.Plant{{X: 0, Age: 1000}, {X: 9}}
		p, e = grow(w)
		wantNoList(t, "Grow", p, e, api.ErrPlace)
	}
	w := meadow(region(0, 0, 4, 1), kinds(func(k *api.Kind) { k.Throw = 0 }), []api.Plant{{Age: 990}})
	for many := range 51 {
		p, e := years(w, 1, many)
		if many > 10 {
			wantNoList(t, "Years", p, e, api.ErrRange)
		} else {
			wantPlants(t, "Years", p, e, []api.Plant{{Size: min(8, float32(2*many)), Age: 990 + many}})
		}
	}
	// One that is dead by then does not become too old.
	w.l[0].Low = 10
	p, e := years(w, 1, 50)
	wantNoList(t, "Years", p, e, api.OK)
}

// P128: who throws a seed: what has at least half of Top, and more than 0.
func TestSeedsOfTheGrown(t *testing.T) {
	r := region(-40, -40, 81, 81)
	most := func(v float32) func(k *api.Kind) { return func(k *api.Kind) { k.Top, k.Throw = v, 32 } }
	l := kinds(most(8), most(0), most(tiny), most(top))
	for _, s := range []struct {
		v      api.Plant
		throws bool
	}{
		{api.Plant{Size: 4}, true}, {api.Plant{Size: before(4)}, false}, {api.Plant{Size: 8}, true}, {api.Plant{}, false},
		{api.Plant{Kind: 1}, false}, {api.Plant{Kind: 1, Size: minusZero}, false}, {api.Plant{Kind: 2}, false}, {api.Plant{Kind: 2, Size: tiny}, true},
		{api.Plant{Kind: 3, Size: top / 2, Age: 1000}, true}, {api.Plant{Kind: 3, Size: before(top / 2)}, false},
	} {
		seen := 0
		for seed := range uint32(50) {
			p, e := seeds(meadow(r, l, []api.Plant{s.v}), seed, 0)
			wantPlants(t, "Seeds", p, e, seedsOf(meadow(r, l, []api.Plant{s.v}), seed, 0))
			for _, v := range p {
				if v.X == 0 && v.Y == 0 {
					continue
				}
				seen++
				if v.Kind != s.v.Kind || v.Age != 0 || !sameBits(v.Size, 0) || max(v.X, -v.X, v.Y, -v.Y) > 32 {
					t.Error("a seed", v)
				}
			}
		}
		if (seen > 40) != s.throws || seen > 0 && !s.throws {
			t.Error("Seeds", s.v, seen)
		}
	}
}

// P128: a seed with nothing to fly by falls on its own plant; one with little falls on each cell around by chance.
func TestSeedsFallAround(t *testing.T) {
	for throw := range 4 {
		l := kinds(func(k *api.Kind) { k.Throw = throw })
		where := map[api.Point]bool{}
		for year := range 1000 {
			p, e := seeds(meadow(region(0, 0, 20, 20), l, []api.Plant{{X: 10, Y: 10, Size: 8}}), 99, year)
			wantError(t, "Seeds", e, api.OK)
			for _, v := range p {
				where[at(v.X, v.Y)] = true
				if max(v.X-10, 10-v.X, v.Y-10, 10-v.Y) > throw {
					t.Error("Seeds", throw, v)
				}
			}
		}
		if len(where) != (2*throw+1)*(2*throw+1) {
			t.Error("Seeds", throw, len(where))
		}
	}
}

// P128: bit by bit the formulas, where some seeds fall on each other, on plants, outside, and where they can't grow.
func TestSeedsByChance(t *testing.T) {
	n := &numbers{state: 11}
	fallen := 0
	for i, w := range append(n.woods(api.MaxYears), n.crowded()...) {
		seed, year := n.next(), []int{0, 1, api.MaxYears, n.between(0, api.MaxYears)}[i%4]
		q, e := seeds(w, seed, year)
		wantPlants(t, "Seeds", q, e, seedsOf(w, seed, year))
		wantError(t, "CheckPlants", plant.CheckPlants(w.l, q), api.OK)
		fallen += len(q) - len(w.p)
	}
	if fallen < 500 {
		t.Error("too few seeds:", fallen)
	}
}

// crowded has woods of kinds that bear different ground, with many seeds in few places.
func (n *numbers) crowded() []wood {
	var l []wood
	for range 200 {
		r := region(n.between(-9, 9), n.between(-9, 9), n.between(1, 15), n.between(1, 15))
		k := kinds(
			func(k *api.Kind) { k.Low, k.High, k.Soft, k.Steep, k.Space = 0, 1, 0, top, 0 },
			func(k *api.Kind) { k.Low, k.High, k.Soft, k.Steep, k.Space = 1, 2, 0, top, 0 },
			func(k *api.Kind) { k.Low, k.High, k.Soft, k.Steep, k.Throw = 0, 2, 0, top, 1 },
		)
		f := n.field(r, func() float32 { return float32(n.between(0, 2)) })
		l = append(l, wood{f, n.field(r, n.share), k, n.plants(r, k, n.between(1, 4), 9)})
	}
	return l
}

// P128: errors of the year, and ErrLarge.
func TestSeedsErrors(t *testing.T) {
	w := meadow(region(0, 0, 9, 9), kinds(spaced(0)), []api.Plant{{Size: 8}})
	for _, year := range outside(0, api.MaxYears) {
		p, e := seeds(w, 1, year)
		wantNoList(t, "Seeds", p, e, api.ErrRange)
	}
	fell, failed := 0, 0
	for _, many := range []int{api.MaxPlants, api.MaxPlants - 1} {
		w := full(many)
		for year := range 40 {
			want := seedsOf(w, 5, year)
			p, e := seeds(w, 5, year)
			if len(want) > api.MaxPlants {
				failed++
				wantNoList(t, "Seeds", p, e, api.ErrLarge)
			} else {
				fell += len(want) - many
				wantPlants(t, "Seeds", p, e, want)
			}
			p, e = seeds(w, 5, api.MaxYears+1+year)
			wantNoList(t, "Seeds", p, e, api.ErrRange)
		}
	}
	if fell == 0 || failed == 0 {
		t.Error("too few cases:", fell, failed)
	}
}

// full has so many plants that few others have room; one of them throws seeds.
func full(many int) wood {
	r := region(0, 0, 80, 64)
	var p []api.Plant
	for i := range r.W * r.H {
		if x, y := i%80, i/80; (x+y)%8 > 0 && len(p) < many {
			p = append(p, api.Plant{X: x, Y: y})
		}
	}
	p[200].Size = 5
	return meadow(r, kinds(func(k *api.Kind) { k.Space, k.Throw = 0, 2 }), p)
}

// P129: bit by bit what the years are made of.
func TestYears(t *testing.T) {
	n := &numbers{state: 12}
	left := 0
	for i, w := range append(n.woods(900), n.crowded()...) {
		seed, many := n.next(), []int{0, 1, 2, 3, 7}[i%5]
		q, e := years(w, seed, many)
		wantPlants(t, "Years", q, e, yearsOf(w, seed, many))
		if many > 0 {
			left += len(q)
			wantApart(t, w.l, q)
		}
	}
	if left < 500 {
		t.Error("too few plants:", left)
	}
	w := n.crowded()[3]
	q, e := years(w, 1, 50)
	wantPlants(t, "Years", q, e, yearsOf(w, 1, 50))
}

// P129, P134: Years is Grow, Seeds and Apart; the numbers of years go on, so that it is not Years of some and then of others.
func TestYearsGoOn(t *testing.T) {
	l := kinds(func(k *api.Kind) { k.Throw = 9 }, func(k *api.Kind) { k.Throw, k.Top, k.Pace = 5, 3, 0.5 })
	w := meadow(region(0, 0, 40, 40), l, []api.Plant{{X: 10, Y: 10, Size: 1}, {Kind: 1, X: 30, Y: 20, Size: 1}})
	step := w
	for year := range 12 {
		for i, do := range []func() ([]api.Plant, api.Errno){
			func() ([]api.Plant, api.Errno) { return grow(step) },
			func() ([]api.Plant, api.Errno) { return seeds(step, 77, year) },
			func() ([]api.Plant, api.Errno) { return plant.Apart(l, step.p) },
		} {
			p, e := do()
			if e != api.OK {
				t.Fatal("step", i, "of the year", year, "error", e)
			}
			step.p = p
		}
		p, e := years(w, 77, year+1)
		wantPlants(t, "Years", p, e, step.p)
	}
	first, e := years(w, 77, 6)
	wantError(t, "Years", e, api.OK)
	second, e := years(wood{w.f, w.wet, l, first}, 77, 6)
	if e != api.OK || slices.EqualFunc(second, step.p, samePlant) || len(step.p) < 20 {
		t.Error("Years of others goes on from the year 0:", e, len(step.p))
	}
}

// P129: no year leaves the plants as they are, also if they are too close.
func TestNoYears(t *testing.T) {
	n := &numbers{state: 13}
	for _, w := range n.woods(api.MaxYears) {
		p, e := years(w, 1, 0)
		wantPlants(t, "Years", p, e, w.p)
	}
}

// P129: errors of many, and of what happens on the way; of ErrLarge and ErrRange of an age ErrLarge.
func TestYearsErrors(t *testing.T) {
	for _, age := range []int{0, api.MaxYears} {
		w := meadow(region(0, 0, 9, 9), kinds(spaced(2)), []api.Plant{{Size: 8, Age: age}})
		for _, many := range outside(0, 50) {
			p, e := years(w, 1, many)
			wantNoList(t, "Years", p, e, api.ErrRange)
		}
	}
	slow := func(k *api.Kind) { k.Space, k.Throw, k.Pace = 0, 32, 1.5 }
	for _, age := range []int{0, 997, 998, 999, 1000} {
		var p []api.Plant
		for i := range 3000 {
			p = append(p, api.Plant{X: i % 100 * 2, Y: 70 + i/100*2, Age: age})
		}
		w := meadow(region(0, 0, 200, 200), kinds(slow), p)
		// In the third year all throw a seed: as yet they have only 1.5, then 3, then 4.5.
		for many := 1; many <= 3; many++ {
			q, e := years(w, 9, many)
			switch {
			case many == 3:
				wantNoList(t, "Years", q, e, api.ErrLarge)
			case age+many > api.MaxYears:
				wantNoList(t, "Years", q, e, api.ErrRange)
			case e != api.OK || len(q) != len(p):
				t.Error("Years", len(q), e)
			}
		}
	}
}
