package plant_test

import (
	"slices"
	"testing"

	"tarnfell/api"
	"tarnfell/noise"
	"tarnfell/plant"
)

// P123: plants at their limits.
func TestCheckPlants(t *testing.T) {
	l := goodKinds()
	for _, p := range [][]api.Plant{
		nil, {}, {{}},
		{{Size: 8, Age: api.MaxYears}}, {{Kind: 1, Size: top}}, {{Kind: 1, Size: minusZero}},
		{{X: -api.MaxPlace, Y: -api.MaxPlace}, {X: api.MaxPlace, Y: -api.MaxPlace}, {X: -api.MaxPlace, Y: api.MaxPlace}, {X: api.MaxPlace, Y: api.MaxPlace}},
		{{X: 5}, {X: 6}, {X: -9, Y: 1}, {X: -8, Y: 1}, {X: -9, Y: 2}},
		many(api.MaxPlants),
	} {
		wantError(t, "CheckPlants", plant.CheckPlants(l, p), api.OK)
	}
	wantError(t, "CheckPlants", plant.CheckPlants(kinds(func(k *api.Kind) { k.Top = 0 }), []api.Plant{{}}), api.OK)
	wantError(t, "CheckPlants", plant.CheckPlants(kinds(func(k *api.Kind) { k.Top = 0 }), []api.Plant{{Size: tiny}}), api.ErrRange)
	wantError(t, "CheckPlants", plant.CheckPlants(l, many(api.MaxPlants+1)), api.ErrLarge)
}

// many are so many plants, 80 to a row.
func many(n int) []api.Plant {
	var p []api.Plant
	for i := range n {
		p = append(p, api.Plant{X: i % 80, Y: i / 80})
	}
	return p
}

// P123: all functions with plants return their errors first, behind those of kinds.
func TestPlantsFirst(t *testing.T) {
	f, l := row(1, 2, 3), goodKinds()
	for _, s := range allBadPlants() {
		for _, c := range allPlanted() {
			some, e := c.call(l, s.p)
			wantRefused(t, c.name, some, e, s.want)
		}
		for _, c := range allLanded() {
			some, e := c.call(f, f, l, s.p)
			wantRefused(t, c.name, some, e, s.want)
		}
		for _, i := range []int{-1, 0, 1 << 40} {
			v, e := plant.Crowd(l, s.p, i)
			wantNoSingle(t, "Crowd", v, e, s.want)
		}
		burnt, e := plant.Burn(l, s.p, at(1<<40, 0), 9)
		wantNoList(t, "Burn", burnt, e, s.want)
		p, e := plant.Seeds(f, f, l, s.p, 0, -1)
		wantNoList(t, "Seeds", p, e, s.want)
		p, e = plant.Years(f, f, l, s.p, 0, -1)
		wantNoList(t, "Years", p, e, s.want)
	}
}

// P123: what is wrong with fields comes ahead of what is wrong with plants, that is ahead of their places.
func TestFieldsAheadOfPlants(t *testing.T) {
	good, l := row(1, 2, 3), goodKinds()
	for _, p := range [][]api.Plant{{{X: 99}}, {{Size: nan}}} {
		for _, c := range allLanded() {
			for _, s := range badFields() {
				some, e := c.call(s.f, good, l, p)
				wantRefused(t, c.name, some, e, s.want)
				some, e = c.call(good, s.f, l, p)
				wantRefused(t, c.name, some, e, s.want)
			}
			some, e := c.call(good, row(1, 2), l, p)
			wantRefused(t, c.name, some, e, api.ErrPlace)
			some, e = c.call(good, good, l, append([]api.Plant{{X: -99}}, p...))
			want := api.ErrForm
			if p[0].X == 99 {
				want = api.ErrPlace
			}
			wantRefused(t, c.name, some, e, want)
		}
	}
}

// P125: known lists: who stands first stays.
func TestApart(t *testing.T) {
	l := kinds(spaced(2), spaced(0), spaced(3), spaced(32))
	for _, s := range []struct{ p, want []api.Plant }{
		{nil, nil},
		{[]api.Plant{{}}, []api.Plant{{}}},
		{[]api.Plant{{X: 0, Size: 4}, {X: 1, Size: 6}, {X: 4, Size: 1}}, []api.Plant{{X: 1, Size: 6}, {X: 4, Size: 1}}},
		// A distance that is equal to the space is not less.
		{[]api.Plant{{X: 0}, {X: 2}}, []api.Plant{{X: 0}, {X: 2}}},
		{[]api.Plant{{X: 0}, {X: 1, Y: 1, Size: 1}}, []api.Plant{{X: 1, Y: 1, Size: 1}}},
		{[]api.Plant{{X: 0, Kind: 2}, {X: 2, Y: 2, Kind: 2, Size: 1}}, []api.Plant{{X: 2, Y: 2, Kind: 2, Size: 1}}},
		{[]api.Plant{{X: 0, Kind: 2, Size: 1}, {X: 3, Kind: 2}}, []api.Plant{{X: 0, Kind: 2, Size: 1}, {X: 3, Kind: 2}}},
		// The greater space of both is asked for.
		{[]api.Plant{{X: 0, Kind: 1, Size: 1}, {X: 2, Kind: 2}}, []api.Plant{{X: 0, Kind: 1, Size: 1}}},
		{[]api.Plant{{X: 0, Kind: 2, Size: 1}, {X: 2, Kind: 1}}, []api.Plant{{X: 0, Kind: 2, Size: 1}}},
		{[]api.Plant{{X: 0, Kind: 1}, {X: 1, Kind: 1}}, []api.Plant{{X: 0, Kind: 1}, {X: 1, Kind: 1}}},
		{[]api.Plant{{X: 0, Kind: 3, Size: 1}, {X: 31, Kind: 1}, {X: 32, Kind: 1}}, []api.Plant{{X: 0, Kind: 3, Size: 1}, {X: 32, Kind: 1}}},
		{[]api.Plant{{X: 0, Kind: 1}, {X: 31, Y: 7, Kind: 3, Size: 1}}, []api.Plant{{X: 31, Y: 7, Kind: 3, Size: 1}}},
		{[]api.Plant{{X: 0, Kind: 1}, {X: 31, Y: 8, Kind: 3, Size: 1}}, []api.Plant{{X: 0, Kind: 1}, {X: 31, Y: 8, Kind: 3, Size: 1}}},
		{[]api.Plant{{X: 0, Kind: 1}, {Y: 31, Kind: 3, Size: 1}}, []api.Plant{{Y: 31, Kind: 3, Size: 1}}},
		{[]api.Plant{{X: 0, Kind: 1}, {Y: 32, Kind: 3, Size: 1}}, []api.Plant{{X: 0, Kind: 1}, {Y: 32, Kind: 3, Size: 1}}},
		// One that does not stay keeps none away.
		{[]api.Plant{{X: 0, Size: 3}, {X: 1, Size: 2}, {X: 2, Size: 1}}, []api.Plant{{X: 0, Size: 3}, {X: 2, Size: 1}}},
		// The greater Size first, then the greater Age.
		{[]api.Plant{{X: 0, Size: 2, Age: 9}, {X: 1, Size: 3, Age: 1}}, []api.Plant{{X: 1, Size: 3, Age: 1}}},
		{[]api.Plant{{X: 0, Size: 2, Age: 1}, {X: 1, Size: 2, Age: 3}}, []api.Plant{{X: 1, Size: 2, Age: 3}}},
		{[]api.Plant{{X: 0, Size: 2, Age: 3}, {X: 1, Size: 2, Age: 1}}, []api.Plant{{X: 0, Size: 2, Age: 3}}},
		{[]api.Plant{{X: 0, Age: 1}, {X: 1, Size: minusZero, Age: 2}}, []api.Plant{{X: 1, Size: minusZero, Age: 2}}},
		{[]api.Plant{{X: 0, Size: minusZero, Age: 1}, {X: 1, Age: 2}}, []api.Plant{{X: 1, Age: 2}}},
	} {
		p, e := plant.Apart(l, s.p)
		wantPlants(t, "Apart", p, e, s.want)
	}
}

// P125: of equal plants the one with the lesser Hash stays; of equal ones of these the first one by (Y, X).
func TestApartByHash(t *testing.T) {
	l := kinds(spaced(3))
	for x := range 300 {
		p := []api.Plant{{X: 3 * x, Y: x, Size: 2, Age: 5}, {X: 3*x + 1, Y: x + 1, Size: 2, Age: 5}}
		want := p[:1]
		if noise.Hash(0, 3*x+1, x+1, 4) < noise.Hash(0, 3*x, x, 4) {
			want = p[1:]
		}
		q, e := plant.Apart(l, p)
		wantPlants(t, "Apart", q, e, want)
	}
	pairs := equalHashes()
	if len(pairs) < 50 {
		t.Error("too few pairs:", len(pairs))
	}
	var p, want []api.Plant
	for _, pair := range pairs {
		p = append(p, pair[0], pair[1])
		want = append(want, pair[0])
	}
	q, e := plant.Apart(kinds(spaced(4)), p)
	wantPlants(t, "Apart", q, e, want)
}

// equalHashes has pairs of places for which P125 has the same Hash, each pair so close that only one of both stays, and far from the others. In some of them the first one by (Y, X) is not that by (X, Y).
func equalHashes() [][2]api.Plant {
	const x, apart = 4378, 3
	var l [][2]api.Plant
	for y := 0; y < 3000; y++ {
		for _, dx := range []int{1, -1} {
			a, b := api.Plant{X: x + max(0, -dx), Y: y}, api.Plant{X: x + max(0, dx), Y: y + apart}
			if noise.Hash(0, a.X, a.Y, 4) == noise.Hash(0, b.X, b.Y, 4) {
				l = append(l, [2]api.Plant{a, b})
				y += 10
			}
		}
	}
	return l
}

// P125: bit by bit the rules; and what follows from them.
func TestApartByChance(t *testing.T) {
	n := &numbers{state: 8}
	for _, w := range append(n.woods(9), n.alike()...) {
		p, e := plant.Apart(w.l, w.p)
		wantPlants(t, "Apart", p, e, apartOf(w.l, w.p))
		wantApart(t, w.l, p)
		for _, v := range w.p {
			ahead := func(s api.Plant) bool { return tooClose(w.l, v, s) && standBefore(s, v) }
			if !slices.ContainsFunc(p, func(s api.Plant) bool { return samePlant(s, v) }) && !slices.ContainsFunc(p, ahead) {
				t.Error("Apart leaves out", v)
			}
		}
		again, e := plant.Apart(w.l, p)
		wantPlants(t, "Apart", again, e, p)
	}
}

// alike has woods whose plants hardly differ, some where many hashes are equal.
func (n *numbers) alike() []wood {
	var l []wood
	for range 30 {
		r := region(4370, n.between(0, 5000), 12, 40)
		k := kinds(spaced(n.between(1, 4)), spaced(n.between(5, 9)))
		p := n.plants(r, k, n.between(1, 5), n.between(0, 1))
		for i := range p {
			p[i].Size = n.pick(1, 1, 1, 2)
		}
		l = append(l, wood{l: k, p: p})
	}
	return l
}

// wantApart wants no two plants to be too close.
func wantApart(t *testing.T, l []api.Kind, p []api.Plant) {
	t.Helper()
	for i, a := range p {
		for _, b := range p[:i] {
			if tooClose(l, a, b) {
				t.Error("too close:", a, b)
			}
		}
	}
}

// P126: known values.
func TestCrowd(t *testing.T) {
	l := kinds(spaced(2), spaced(0), spaced(32))
	third := float32(1) / 3
	p := []api.Plant{{X: 0, Size: 4}, {X: 1, Size: 6}, {X: 4, Size: 1}}
	for i, want := range []float32{4.5, 3 + 0.25, 1.5} {
		v, e := plant.Crowd(l, p, i)
		wantSingle(t, "Crowd", v, e, want)
	}
	for _, s := range []struct {
		p    []api.Plant
		i    int
		want float32
	}{
		{[]api.Plant{{Size: 8}}, 0, 0},
		{[]api.Plant{{X: 1, Size: 8}, {X: 4, Size: 8}}, 0, 2}, {[]api.Plant{{X: 1, Size: 8}, {X: 5, Size: 8}}, 0, 0},
		{[]api.Plant{{Size: 8}, {X: 1, Kind: 1, Size: 3}}, 0, 1.5}, {[]api.Plant{{Size: 8}, {X: 2, Kind: 1, Size: 3}}, 0, 0},
		{[]api.Plant{{Kind: 1, Size: 8}, {X: 1, Kind: 1, Size: 3}}, 0, 0},
		{[]api.Plant{{Kind: 2}, {X: 63, Kind: 2, Size: 8}}, 0, 0.125}, {[]api.Plant{{Kind: 2}, {X: 64, Kind: 2, Size: 8}}, 0, 0},
		{[]api.Plant{{Kind: 2}, {Y: 63, Kind: 2, Size: 8}}, 0, 0.125}, {[]api.Plant{{Kind: 2, Size: 8}, {Y: 63, Kind: 2}}, 1, 0.125},
		{[]api.Plant{{Kind: 2}, {X: 63, Y: 11, Kind: 2, Size: 8}}, 0, 8 * (1 - root(63*63+11*11)/64)}, {[]api.Plant{{Kind: 2}, {X: 63, Y: 12, Kind: 2, Size: 8}}, 0, 0},
		{[]api.Plant{{Kind: 2}, {X: 17, Kind: 0, Size: 8}}, 0, 4}, {[]api.Plant{{Kind: 2, Size: 4}, {Y: 33}}, 1, 4 * (1 - float32(33)/34)},
		{[]api.Plant{{}, {X: 3, Y: 1, Size: 1}}, 0, 1 - root(10)/4},
		// A sum begins with its first value.
		{[]api.Plant{{}, {X: 1, Size: minusZero}}, 0, minusZero}, {[]api.Plant{{}, {X: 1, Size: minusZero}, {Y: 1, Size: minusZero}}, 0, minusZero},
		{[]api.Plant{{}, {X: 1, Size: minusZero}, {Y: 1}}, 0, 0}, {[]api.Plant{{}, {X: 1}, {Y: 1, Size: minusZero}}, 0, 0}, {[]api.Plant{{}, {X: 9, Size: minusZero}}, 0, 0},
	} {
		v, e := plant.Crowd(l, s.p, s.i)
		wantSingle(t, "Crowd", v, e, s.want)
	}
	// It may be no height.
	l = kinds(func(k *api.Kind) { k.Top, k.Space = top, 3 })
	v, e := plant.Crowd(l, []api.Plant{{Size: top}, {X: 1, Size: top}, {X: 2, Size: top}, {X: 3, Size: top}}, 0)
	wantSingle(t, "Crowd", v, e, top*(1-1/float32(6))+top*(1-third)+top*0.5)
}

// P126: the sum is in the order of the list: what comes first tells what is lost.
func TestCrowdInOrder(t *testing.T) {
	l := kinds(func(k *api.Kind) { k.Top, k.Space = top, 3 })
	small := float32(0.0625)
	for _, s := range []struct {
		sizes []float32
		want  float32
	}{
		{[]float32{top, small, small}, top / 2}, {[]float32{small, small, top}, top/2 + 0.0625},
	} {
		// All three are at the distance 3, which is half of R.
		v, e := plant.Crowd(l, []api.Plant{{Y: -3, Size: s.sizes[0]}, {X: -3, Size: s.sizes[1]}, {}, {X: 3, Size: s.sizes[2]}}, 2)
		wantSingle(t, "Crowd", v, e, s.want)
	}
}

// P126: bit by bit the formulas.
func TestCrowdByChance(t *testing.T) {
	n := &numbers{state: 9}
	some := 0
	for _, w := range n.woods(9) {
		for i := range w.p {
			v, e := plant.Crowd(w.l, w.p, i)
			wantSingle(t, "Crowd", v, e, crowdOf(w.l, w.p, i))
			if v > 0 {
				some++
			}
		}
	}
	if some < 1000 {
		t.Error("too few crowds:", some)
	}
}

// P126: ErrPlace, if there is no such plant.
func TestCrowdErrors(t *testing.T) {
	for _, i := range outside(0, 2) {
		v, e := plant.Crowd(kinds(spaced(9)), []api.Plant{{Size: 1}, {X: 1, Size: 2}, {X: 2, Size: 1}}, i)
		wantNoSingle(t, "Crowd", v, e, api.ErrPlace)
	}
	for _, i := range []int{0, 1, -1} {
		v, e := plant.Crowd(kinds(spaced(9)), nil, i)
		wantNoSingle(t, "Crowd", v, e, api.ErrPlace)
	}
}
