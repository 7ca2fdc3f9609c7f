package plant_test

import (
	"strings"
	"testing"

	"tarnfell/api"
	"tarnfell/plant"
)

// badKind is a kind with what CheckKind says of it.
type badKind struct {
	k    api.Kind
	want api.Errno
}

// singlesOf gives the singles of a kind in the order in which they are asked for.
func singlesOf(k *api.Kind) []*float32 {
	return []*float32{&k.Low, &k.High, &k.Soft, &k.Steep, &k.Dry, &k.Damp, &k.Top, &k.Pace, &k.Share, &k.Bark}
}

func badSortOfKinds() []badKind {
	var l []badKind
	add := func(want api.Errno, change func(k *api.Kind)) { l = append(l, badKind{like("calm", change), want}) }
	for _, name := range []string{"", "Calm", "calM", "a b", " a", "a ", "a1", "a-b", "\x00", "a\n", "`", "{", "é", "\xff", strings.Repeat("a", 21), strings.Repeat("a", 1<<20)} {
		add(api.ErrName, func(k *api.Kind) { k.Name = name })
		add(api.ErrName, func(k *api.Kind) { *k = api.Kind{Name: name, Low: nan, High: -beyond, Soft: -1, Space: 99} })
	}
	for i := range 10 {
		for _, v := range []float32{nan, inf, -inf} {
			add(api.ErrForm, func(k *api.Kind) { *singlesOf(k)[i] = v })
		}
		for _, v := range []float32{beyond, -beyond} {
			add(api.ErrRange, func(k *api.Kind) { *singlesOf(k)[i] = v })
		}
		// All are asked for ErrForm first, then all for ErrRange; both come ahead of ErrOrder.
		for other := range 10 {
			if other != i {
				add(api.ErrForm, func(k *api.Kind) { *singlesOf(k)[i], *singlesOf(k)[other] = nan, beyond })
			}
		}
		if i > 1 {
			add(api.ErrForm, func(k *api.Kind) { k.High, *singlesOf(k)[i] = -1, nan })
			add(api.ErrRange, func(k *api.Kind) { k.High, *singlesOf(k)[i] = -1, beyond })
		}
	}
	add(api.ErrOrder, func(k *api.Kind) { k.High = before(0) })
	add(api.ErrOrder, func(k *api.Kind) { k.Low = after(10) })
	add(api.ErrOrder, func(k *api.Kind) { k.Dry = after(1) })
	add(api.ErrOrder, func(k *api.Kind) { k.Damp = -tiny })
	add(api.ErrOrder, func(k *api.Kind) { k.Damp, k.Dry, k.Soft, k.Share = -2, -1, -1, 2 })
	add(api.ErrOrder, func(k *api.Kind) { k.High, k.Bark, k.Space = -1, 2, 33 })
	for i := range 10 {
		if i == 2 || i == 3 || i == 4 || i >= 6 {
			add(api.ErrRange, func(k *api.Kind) { *singlesOf(k)[i] = -tiny })
			add(api.ErrRange, func(k *api.Kind) { *singlesOf(k)[i] = -top })
		}
		if i >= 8 {
			add(api.ErrRange, func(k *api.Kind) { *singlesOf(k)[i] = after(1) })
			add(api.ErrRange, func(k *api.Kind) { *singlesOf(k)[i] = top })
		}
	}
	for _, n := range outside(0, 32) {
		add(api.ErrRange, func(k *api.Kind) { k.Space = n })
		add(api.ErrRange, func(k *api.Kind) { k.Throw = n })
	}
	return l
}

// P120: kinds at their limits.
func TestCheckKind(t *testing.T) {
	for _, k := range []api.Kind{
		calm(),
		{Name: "a"}, {Name: "z"}, {Name: "abcdefghijklmnopqrst"}, {Name: "qrstuvwxyzqrstuvwxyz"},
		{Name: "x", Low: minusZero, High: 0, Soft: minusZero, Steep: minusZero, Dry: minusZero, Damp: minusZero, Top: minusZero, Pace: minusZero, Share: minusZero, Bark: minusZero},
		{Name: "x", Low: 0, High: minusZero, Dry: 0, Damp: minusZero},
		{Name: "x", Low: -top, High: -top},
		{Name: "x", Low: top, High: top, Soft: top, Steep: top, Dry: top, Damp: top, Top: top, Pace: top, Share: 1, Bark: 1, Space: 32, Throw: 32},
	} {
		wantError(t, "CheckKind", plant.CheckKind(k), api.OK)
		wantError(t, "CheckKinds", plant.CheckKinds([]api.Kind{k}), api.OK)
	}
	for i := range 10 {
		wantError(t, "CheckKind", plant.CheckKind(like("a", func(k *api.Kind) { k.High, k.Damp, *singlesOf(k)[i] = top, top, 1 })), api.OK)
	}
	for c := byte('a'); c <= 'z'; c++ {
		wantError(t, "CheckKind", plant.CheckKind(api.Kind{Name: string(c)}), api.OK)
	}
}

// P120: the errors of a kind, and their order.
func TestCheckKindErrors(t *testing.T) {
	for _, s := range badSortOfKinds() {
		if e := plant.CheckKind(s.k); e != s.want {
			t.Errorf("CheckKind of %v: error %d, want %d", s.k, e, s.want)
		}
	}
	for c := range 256 {
		if c < 'a' || c > 'z' {
			wantError(t, "CheckKind", plant.CheckKind(api.Kind{Name: "a" + string([]byte{byte(c)}) + "a"}), api.ErrName)
		}
	}
}

// P120: lists of kinds.
func TestCheckKinds(t *testing.T) {
	n := &numbers{state: 1}
	for many := 1; many <= api.MaxKinds; many++ {
		wantError(t, "CheckKinds", plant.CheckKinds(n.kinds(many)), api.OK)
	}
	wantError(t, "CheckKinds", plant.CheckKinds(n.kinds(api.MaxKinds+1)), api.ErrLarge)
	for _, s := range allBadKinds() {
		wantError(t, "CheckKinds", plant.CheckKinds(s.l), s.want)
	}
}

// P120, P123, P124, P130, P133: all functions with kinds return their error first.
func TestKindsFirst(t *testing.T) {
	f, far := row(1, 2, 3), api.Plant{Kind: -1, X: 1 << 40}
	for _, s := range allBadKinds() {
		for _, p := range [][]api.Plant{nil, {far}, make([]api.Plant, api.MaxPlants+1)} {
			for _, c := range allPlanted() {
				some, e := c.call(s.l, p)
				wantRefused(t, c.name, some, e, s.want)
			}
			for _, c := range allLanded() {
				some, e := c.call(f, f, s.l, p)
				wantRefused(t, c.name, some, e, s.want)
			}
		}
		p, e := plant.Sprouts(f, f, s.l, 1)
		wantNoList(t, "Sprouts", p, e, s.want)
		for _, text := range []string{"", "x", "calm 0 0 0 0\n", strings.Repeat("x", api.MaxText+1)} {
			p, line, e := plant.Parse(s.l, text)
			wantRefused(t, "Parse", len(p) > 0 || line != 0, e, s.want)
		}
		_, e = plant.Crowd(s.l, nil, -1)
		wantError(t, "Crowd", e, s.want)
		_, e = plant.Burn(s.l, nil, at(1<<40, 0), 9)
		wantError(t, "Burn", e, s.want)
		_, e = plant.Years(f, f, s.l, nil, 0, -1)
		wantError(t, "Years", e, s.want)
		_, e = plant.Seeds(f, f, s.l, nil, 0, -1)
		wantError(t, "Seeds", e, s.want)
	}
	for _, s := range badSortOfKinds() {
		v, e := plant.Suit(s.k, api.Ground{Height: nan, Slope: -1, Wet: beyond})
		wantNoSingle(t, "Suit", v, e, s.want)
		g, e := plant.Fitness(f, f, s.k)
		wantNoField(t, "Fitness", g, e, s.want)
	}
}

// P120: what is wrong with fields comes ahead of what is wrong with kinds.
func TestFieldsAheadOfKinds(t *testing.T) {
	good := row(1, 2, 3)
	for _, l := range [][]api.Kind{{calm()}, {calm(), {}}} {
		for _, p := range [][]api.Plant{nil, {{Kind: -1}}} {
			for _, c := range sown() {
				for _, s := range badFields() {
					some, e := c.call(s.f, good, l, p)
					wantRefused(t, c.name, some, e, s.want)
					some, e = c.call(good, s.f, l, p)
					wantRefused(t, c.name, some, e, s.want)
					some, e = c.call(s.f, row(nan), l, p)
					wantRefused(t, c.name, some, e, s.want)
				}
				for _, other := range otherRegions() {
					some, e := c.call(good, other, l, p)
					wantRefused(t, c.name, some, e, api.ErrPlace)
				}
			}
		}
	}
}

// otherRegions has fields that do not have the region of a row of three.
func otherRegions() []api.Field {
	return []api.Field{row(1, 2), row(1, 2, 3, 4), of(1, 0, 3, 1, 1, 2, 3), of(0, 1, 3, 1, 1, 2, 3), of(0, 0, 1, 3, 1, 2, 3), of(0, 0, 3, 2, 1, 2, 3, 4, 5, 6)}
}

// P121: known values.
func TestSlack(t *testing.T) {
	third := float32(1) / 3
	for _, s := range []struct{ v, low, high, soft, want float32 }{
		{5, 0, 10, 4, 1}, {0, 0, 10, 4, 1}, {10, 0, 10, 4, 1}, {minusZero, 0, 10, 0, 1}, {0, minusZero, minusZero, 0, 1},
		{12, 0, 10, 4, 0.5}, {-1, 0, 10, 4, 0.75}, {-3, 0, 10, 4, 0.25}, {14, 0, 10, 4, 0}, {-4, 0, 10, 4, 0}, {99, 0, 10, 4, 0}, {-99, 0, 10, 4, 0},
		{after(10), 0, 10, 0, 0}, {before(0), 0, 10, 0, 0}, {after(10), 0, 10, minusZero, 0}, {3, 3, 3, 0, 1},
		{11, 0, 10, 3, 1 - third}, {-2, 0, 10, 3, 1 - 2*third}, {tiny, -1, 0, 2 * tiny, 0.5}, {tiny, -1, 0, tiny, 0}, {tiny, -1, 0, top, 1},
		{-top, top, top, top, 0}, {top, -top, -top, top, 0}, {top, -top, 0, top, 0}, {before(top), -1, 0, top, 0x1p-24}, {-top, -top, top, 0, 1},
	} {
		v, e := plant.Slack(s.v, s.low, s.high, s.soft)
		wantSingle(t, "Slack", v, e, s.want)
	}
}

// P121: bit by bit the formulas, with singles of all sizes.
func TestSlackByChance(t *testing.T) {
	n := &numbers{state: 2}
	for range 100000 {
		most := n.pick(1, 10, top)
		draw := func() float32 {
			return n.pick(n.height(most), n.single()*most, float32(n.between(-3, 3)))
		}
		v, low, high, soft := draw(), draw(), draw(), size(draw())
		if low > high {
			low, high = high, low
		}
		s, e := plant.Slack(v, low, high, soft)
		wantSingle(t, "Slack", s, e, slackOf(v, low, high, soft))
	}
}

// P121: errors, and their order.
func TestSlackErrors(t *testing.T) {
	for i := range 4 {
		for _, s := range badSingles(-top, top) {
			in := [4]float32{5, 0, 10, 4}
			in[i] = s.v
			v, e := plant.Slack(in[0], in[1], in[2], in[3])
			wantNoSingle(t, "Slack", v, e, s.want)
			for k := range 4 {
				if k != i && s.want == api.ErrForm {
					both := in
					both[k] = beyond
					v, e := plant.Slack(both[0], both[1], both[2], both[3])
					wantNoSingle(t, "Slack", v, e, api.ErrForm)
				}
			}
		}
	}
	for _, s := range []struct {
		v, low, high, soft float32
		want               api.Errno
	}{
		{5, 10, 0, 4, api.ErrOrder}, {5, after(1), 1, 4, api.ErrOrder}, {5, 10, 0, -1, api.ErrOrder}, {10, 10, before(10), 0, api.ErrOrder},
		{5, 10, 0, nan, api.ErrForm}, {5, 10, 0, beyond, api.ErrRange}, {-beyond, 10, 0, 1, api.ErrRange},
		{5, 0, 10, -tiny, api.ErrRange}, {99, 0, 10, -tiny, api.ErrRange}, {5, 0, 10, -top, api.ErrRange},
	} {
		v, e := plant.Slack(s.v, s.low, s.high, s.soft)
		wantNoSingle(t, "Slack", v, e, s.want)
	}
}

// P122: known values.
func TestSuit(t *testing.T) {
	third := float32(1) / 3
	wet := like("wet", func(k *api.Kind) { k.Dry, k.Damp = 3, 5 })
	flatOnly := like("flat", func(k *api.Kind) { k.Steep = 0 })
	steep := like("steep", func(k *api.Kind) { k.Steep = 3 })
	edge := like("edge", func(k *api.Kind) { k.Dry, k.Damp, k.Steep = top, top, top })
	for _, s := range []struct {
		k    api.Kind
		g    api.Ground
		want float32
	}{
		{calm(), api.Ground{Height: 5, Wet: 1}, 1}, {calm(), api.Ground{Height: 12, Slope: 1, Wet: 1}, 0.375},
		{calm(), api.Ground{Height: 5, Slope: 2}, 0.5}, {calm(), api.Ground{Height: 5, Slope: after(2)}, 0},
		{calm(), api.Ground{Height: 5, Wet: 1.5}, 0.5}, {calm(), api.Ground{Height: 5, Wet: 2}, 0}, {calm(), api.Ground{Height: -4}, 0},
		{calm(), api.Ground{Slope: minusZero, Wet: minusZero}, 1},
		{calm(), api.Ground{Height: -1, Slope: 2, Wet: 1.5}, 0.75 * 0.5 * 0.5},
		{wet, api.Ground{Wet: 3}, 1}, {wet, api.Ground{Wet: 5}, 1}, {wet, api.Ground{Wet: 1}, 0.5}, {wet, api.Ground{}, 0.25}, {wet, api.Ground{Wet: 7}, 0.5}, {wet, api.Ground{Wet: 9}, 0},
		{flatOnly, api.Ground{}, 1}, {flatOnly, api.Ground{Slope: tiny}, 0},
		{steep, api.Ground{Slope: 2}, 1 - third}, {steep, api.Ground{Slope: 3}, 0.5}, {steep, api.Ground{Slope: 1, Wet: 1}, 1 - 0.5*third},
		// The wetness over which edge fails is no height.
		{edge, api.Ground{Slope: top, Wet: top}, 0.5}, {edge, api.Ground{Wet: top / 2}, minus(1, over(top/2, top+1))}, {edge, api.Ground{}, minus(1, over(top, top+1))},
	} {
		v, e := plant.Suit(s.k, s.g)
		wantSingle(t, "Suit", v, e, s.want)
	}
}

// P122, P134: bit by bit the formulas; Suit is from 0 to 1.
func TestSuitByChance(t *testing.T) {
	n := &numbers{state: 3}
	some := 0
	for range 100000 {
		k := n.kind("a")
		g := api.Ground{Height: n.pick(n.single()*6, k.Low, k.High, n.height(top)), Slope: size(n.pick(n.single(), k.Steep*n.share(), k.Steep, n.height(top))), Wet: n.pick(n.share()*2, k.Dry, k.Damp, size(n.height(top)))}
		v, e := plant.Suit(k, g)
		wantSingle(t, "Suit", v, e, suitOf(k, g))
		if !(v >= 0 && v <= 1) {
			t.Error("Suit", k, g, v)
		}
		if v > 0 && v < 1 {
			some++
		}
	}
	if some < 10000 {
		t.Error("too few cases between 0 and 1:", some)
	}
}

// P122: errors of the ground, and their order.
func TestSuitErrors(t *testing.T) {
	for i := range 3 {
		for _, s := range badSingles(-top, top) {
			in := [3]float32{5, 1, 1}
			in[i] = s.v
			v, e := plant.Suit(calm(), api.Ground{Height: in[0], Slope: in[1], Wet: in[2]})
			wantNoSingle(t, "Suit", v, e, s.want)
		}
	}
	for _, s := range []struct {
		g    api.Ground
		want api.Errno
	}{
		{api.Ground{Slope: -tiny}, api.ErrRange}, {api.Ground{Wet: -tiny}, api.ErrRange}, {api.Ground{Slope: -top, Wet: -top}, api.ErrRange},
		{api.Ground{Height: 99, Slope: -1}, api.ErrRange}, {api.Ground{Height: 99, Wet: -1}, api.ErrRange},
		{api.Ground{Height: beyond, Slope: -1, Wet: nan}, api.ErrForm}, {api.Ground{Height: inf, Slope: beyond}, api.ErrForm}, {api.Ground{Slope: -1, Wet: inf}, api.ErrForm},
	} {
		v, e := plant.Suit(calm(), s.g)
		wantNoSingle(t, "Suit", v, e, s.want)
	}
}
