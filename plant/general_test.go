package plant_test

import (
	"math"
	"slices"
	"strings"
	"testing"

	"tarnfell/api"
	"tarnfell/field"
	"tarnfell/plant"
)

var (
	wildInts    = []int{0, 1, -1, 2, 7, 32, 33, 50, 51, 512, 1000, 1001, api.MaxPlace, -api.MaxPlace, 1 << 30, 1<<32 + 1, -1 << 62, math.MaxInt, math.MinInt}
	wildSingles = []float32{0, minusZero, 1, -0.5, 0.125, tiny, 64, top, -top, beyond, math.MaxFloat32, -math.MaxFloat32, inf, -inf, nan}
)

// wantWild wants no result together with an error.
func wantWild(t *testing.T, name string, some bool, e api.Errno) {
	t.Helper()
	if some && e != api.OK {
		t.Errorf("%s: a result with the error %d", name, e)
	}
}

// wantRight wants a field that is right, if there is no error.
func wantRight(t *testing.T, name string, f api.Field, e api.Errno) {
	t.Helper()
	wantWild(t, name, len(f.V) > 0 || f.Region != api.Region{}, e)
	if e == api.OK {
		wantError(t, name, field.Check(f), api.OK)
	}
}

// wantRightPlants wants plants that are right, if there is no error.
func wantRightPlants(t *testing.T, name string, l []api.Kind, p []api.Plant, e api.Errno) {
	t.Helper()
	wantWild(t, name, len(p) > 0, e)
	if e == api.OK {
		wantError(t, name, plant.CheckPlants(l, p), api.OK)
	}
}

// G1, G3: no function panics, whatever its integers are.
func TestWildInts(t *testing.T) {
	l := kinds(spaced(32), spaced(0))
	p := []api.Plant{{Size: 8}, {X: 1, Kind: 1, Size: 8}}
	f := row(1, 2)
	for _, a := range wildInts {
		for _, b := range wildInts {
			wantWildKind(t, like("a", func(k *api.Kind) { k.Space, k.Throw = a, b }), f)
			for _, v := range []api.Plant{{X: a, Y: b}, {Kind: a, Age: b}, {X: b, Age: a}, {Kind: b, Y: a}} {
				wantWildPlants(t, f, l, []api.Plant{v})
				wantWildPlants(t, f, l, []api.Plant{{}, v})
				wantWildPlants(t, f, l, []api.Plant{v, {X: 1}})
			}
			for _, r := range []api.Region{region(a, b, 2, 1), region(0, 0, a, b)} {
				g := api.Field{Region: r, V: []float32{1, 2}}
				wantWildKind(t, calm(), g)
				wantWildPlants(t, g, l, p)
				c, e := plant.Cover(r, l, p)
				wantRight(t, "Cover", c, e)
				c, e = plant.Shade(r, l, p)
				wantRight(t, "Shade", c, e)
			}
			ground, e := plant.Ground(f, f, a, b)
			wantWild(t, "Ground", ground != api.Ground{}, e)
			burnt, e := plant.Burn(l, p, at(a, b), 3)
			wantWild(t, "Burn", len(burnt) > 0, e)
			i, e := plant.Nearest(p, at(a, b))
			wantWild(t, "Nearest", i != 0, e)
		}
		v, e := plant.Crowd(l, p, a)
		wantWild(t, "Crowd", v != 0, e)
		burnt, e := plant.Burn(l, p, at(0, 0), a)
		wantWild(t, "Burn", len(burnt) > 0, e)
		q, e := plant.Seeds(f, f, l, p, uint32(a), a)
		wantRightPlants(t, "Seeds", l, q, e)
		q, e = plant.Years(f, f, l, p, uint32(a), a)
		wantRightPlants(t, "Years", l, q, e)
		q, e = plant.Sprouts(f, f, l, uint32(a))
		wantRightPlants(t, "Sprouts", l, q, e)
	}
}

// wantWildKind calls all that take kinds.
func wantWildKind(t *testing.T, k api.Kind, f api.Field) {
	t.Helper()
	l := []api.Kind{k}
	s, e := plant.Suit(k, api.Ground{Height: 1})
	wantWild(t, "Suit", s != 0, e)
	if e == api.OK && !(s >= 0 && s <= 1) {
		t.Error("Suit", k, s)
	}
	g, e := plant.Fitness(f, f, k)
	wantRight(t, "Fitness", g, e)
	p, e := plant.Sprouts(f, f, l, 1)
	wantRightPlants(t, "Sprouts", l, p, e)
	wantWildPlants(t, f, l, []api.Plant{{X: f.X, Y: f.Y, Size: min(8, k.Top)}})
	p, _, e = plant.Parse(l, "a 0 0 1 0\n")
	wantRightPlants(t, "Parse", l, p, e)
}

// wantWildPlants calls all that take plants.
func wantWildPlants(t *testing.T, f api.Field, l []api.Kind, p []api.Plant) {
	t.Helper()
	for _, c := range allPlanted() {
		some, e := c.call(l, p)
		wantWild(t, c.name, some, e)
	}
	for _, c := range allLanded() {
		some, e := c.call(f, f, l, p)
		wantWild(t, c.name, some, e)
	}
	q, e := plant.Years(f, f, l, p, 1, 3)
	wantRightPlants(t, "Years", l, q, e)
	i, e := plant.Nearest(p, at(3, 4))
	wantWild(t, "Nearest", i != 0, e)
	text, e := plant.Print(l, p)
	if e == api.OK {
		back, _, e := plant.Parse(l, text)
		wantPlants(t, "Parse", back, e, p)
	}
}

// G1, G3, G7: no function panics, whatever its singles are, and no result has a NaN.
func TestWildSingles(t *testing.T) {
	for _, a := range wildSingles {
		for _, b := range wildSingles {
			for i := range 10 {
				wantWildKind(t, like("a", func(k *api.Kind) { *singlesOf(k)[i], *singlesOf(k)[(i+3)%10] = a, b }), row(1, 0.5, -1))
				wantWildKind(t, like("a", func(k *api.Kind) { *singlesOf(k)[i], *singlesOf(k)[(i+1)%10] = a, b }), row(1, top, -top))
			}
			wantWildPlants(t, row(1, 1, 1), goodKinds(), []api.Plant{{Size: a}, {X: 1, Kind: 1, Size: b}})
			wantWildPlants(t, row(a, b, 1), goodKinds(), []api.Plant{{Size: 8}, {X: 1, Kind: 1, Size: 64}})
			f, wet := row(a, b, 1), row(b, 0, a)
			g, e := plant.Fitness(f, wet, calm())
			wantRight(t, "Fitness", g, e)
			for x := range 3 {
				ground, e := plant.Ground(f, wet, x, 0)
				wantWild(t, "Ground", ground != api.Ground{}, e)
				s, e := plant.Suit(calm(), ground)
				wantWild(t, "Suit", s != 0, e)
			}
			for _, c := range wildSingles {
				s, e := plant.Suit(calm(), api.Ground{Height: a, Slope: b, Wet: c})
				wantWild(t, "Suit", s != 0, e)
				for _, d := range wildSingles {
					v, e := plant.Slack(a, b, c, d)
					wantWild(t, "Slack", v != 0, e)
					if !(v >= 0 && v <= 1) {
						t.Error("Slack", a, b, c, d, v)
					}
				}
			}
		}
	}
}

// G1: what is read ends, whatever the text is.
func TestWildTexts(t *testing.T) {
	n := &numbers{state: 19}
	l := named()
	words := []string{"fir", "oak", "elm", "", " ", "\n", "0", "1", "-1", "4", "9e9", "e", "1e1000", "\xff", "00", "999999999", "-", ".", "\x00"}
	right := 0
	for range 20000 {
		var text strings.Builder
		for range n.between(0, 3) {
			for i, word := range []string{"fir", "0", "0", "4", "0"} {
				if n.between(0, 9) == 0 {
					word = words[n.between(0, len(words)-1)]
				}
				text.WriteString([]string{"", " "}[min(i, 1)] + word)
			}
			text.WriteString([]string{"\n", "\n", "\n", ""}[n.between(0, 3)])
		}
		p, line, e := plant.Parse(l, text.String())
		wantRightPlants(t, "Parse", l, p, e)
		if line != 0 && e != api.ErrSyntax && e != api.ErrName {
			t.Errorf("Parse of %q: line %d with the error %d", text.String(), line, e)
		}
		if e == api.OK && len(p) > 0 {
			right++
		}
	}
	if right < 1000 {
		t.Error("too few texts are right:", right)
	}
}

func scribble[T any](l []T, v T) {
	l = l[:cap(l)]
	for i := range l {
		l[i] = v
	}
}

// wantFresh wants a function to leave the list alone from which it makes another one, and to make that one anew.
func wantFresh[A, R comparable](t *testing.T, what string, l []A, other A, none R, of func(l []A) []R) {
	t.Helper()
	l = append(slices.Clone(l), other, other)[:len(l)]
	kept := slices.Clone(l[:len(l)+2])
	first := of(l)
	want := slices.Clone(first)
	scribble(first, none)
	second := of(l)
	if !slices.Equal(l[:len(l)+2], kept) {
		t.Errorf("%s changes its list", what)
	}
	scribble(l, other)
	if len(want) == 0 || !slices.Equal(second, want) {
		t.Errorf("%s: got %v, want %v", what, second, want)
	}
}

// G2: arguments are neither modified nor retained, results share no memory, and calls leave no state.
func TestArgumentsAreLeftAlone(t *testing.T) {
	n := &numbers{state: 20}
	r := region(-5, 3, 14, 11)
	k := kinds(func(k *api.Kind) { k.Space, k.Share = 1, 0.7 }, func(k *api.Kind) { k.Low, k.Space, k.Throw = 5.5, 2, 5 })
	w := wood{n.field(r, func() float32 { return 5 + n.single() }), n.field(r, n.share), k, n.plants(r, k, 4, 9)}
	noPlant, noKind := api.Plant{Kind: 9}, like("none", spaced(9))
	for name, do := range map[string]func(w wood) []api.Plant{
		"Sprouts": func(w wood) []api.Plant { p, _ := plant.Sprouts(w.f, w.wet, w.l, 3); return p },
		"Apart":   func(w wood) []api.Plant { p, _ := plant.Apart(w.l, w.p); return p },
		"Grow":    func(w wood) []api.Plant { p, _ := grow(w); return p },
		"Seeds":   func(w wood) []api.Plant { p, _ := seeds(w, 4, 5); return p },
		"Years":   func(w wood) []api.Plant { p, _ := years(w, 4, 3); return p },
		"Years 0": func(w wood) []api.Plant { p, _ := years(w, 4, 0); return p },
		"Parse": func(w wood) []api.Plant {
			text, _ := plant.Print(w.l, w.p)
			p, _, _ := plant.Parse(w.l, text)
			return p
		},
	} {
		wantFresh(t, name, w.f.V, 99, noPlant, func(v []float32) []api.Plant { return do(wood{api.Field{Region: r, V: v}, w.wet, w.l, w.p}) })
		wantFresh(t, name, w.wet.V, 99, noPlant, func(v []float32) []api.Plant { return do(wood{w.f, api.Field{Region: r, V: v}, w.l, w.p}) })
		wantFresh(t, name, w.l, noKind, noPlant, func(l []api.Kind) []api.Plant { return do(wood{w.f, w.wet, l, w.p}) })
		wantFresh(t, name, w.p, noPlant, noPlant, func(p []api.Plant) []api.Plant { return do(wood{w.f, w.wet, w.l, p}) })
	}
	for name, do := range map[string]func(w wood) []float32{
		"Fitness": func(w wood) []float32 { f, _ := plant.Fitness(w.f, w.wet, w.l[0]); return f.V },
		"Cover":   func(w wood) []float32 { f, _ := plant.Cover(r, w.l, w.p); return f.V },
		"Shade":   func(w wood) []float32 { f, _ := plant.Shade(r, w.l, w.p); return f.V },
		"others": func(w wood) []float32 {
			g, _ := plant.Ground(w.f, w.wet, 0, 5)
			c, _ := plant.Crowd(w.l, w.p, 3)
			i, _ := plant.Nearest(w.p, at(3, 3))
			return []float32{g.Height, g.Slope, g.Wet, c, float32(i), float32(plant.CheckPlants(w.l, w.p))}
		},
		"Burn": func(w wood) []float32 {
			var l []float32
			burnt, _ := plant.Burn(w.l, w.p, at(2, 4), 1)
			for _, i := range burnt {
				l = append(l, float32(i))
			}
			return l
		},
		"Count": func(w wood) []float32 {
			var l []float32
			counts, _ := plant.Count(w.l, w.p)
			for _, c := range counts {
				l = append(l, float32(c.Many), c.Sum)
			}
			return l
		},
	} {
		wantFresh(t, name, w.f.V, 99, -1, func(v []float32) []float32 { return do(wood{api.Field{Region: r, V: v}, w.wet, w.l, w.p}) })
		wantFresh(t, name, w.wet.V, 99, -1, func(v []float32) []float32 { return do(wood{w.f, api.Field{Region: r, V: v}, w.l, w.p}) })
		wantFresh(t, name, w.l, noKind, -1, func(l []api.Kind) []float32 { return do(wood{w.f, w.wet, l, w.p}) })
		wantFresh(t, name, w.p, noPlant, -1, func(p []api.Plant) []float32 { return do(wood{w.f, w.wet, w.l, p}) })
	}
	wantFresh(t, "Burn", w.p, noPlant, -1, func(p []api.Plant) []int { l, _ := plant.Burn(w.l, p, at(2, 4), 1); return l })
	wantFresh(t, "Count", w.p, noPlant, api.Census{}, func(p []api.Plant) []api.Census { l, _ := plant.Count(w.l, p); return l })
}

// The greatest lists on the largest fields end soon, for all kinds of kinds.
func TestLargest(t *testing.T) {
	r := region(-api.MaxPlace, api.MaxPlace-128, 512, 128)
	n := &numbers{state: 21}
	l := kinds(
		func(k *api.Kind) { k.Space, k.Throw, k.Pace, k.Share = 5, 32, 0.5, 0.05 },
		func(k *api.Kind) { k.Space, k.Throw, k.Low, k.Share = 32, 32, 9, 0.05 },
	)
	f := n.field(r, func() float32 { return 5 + n.single() })
	wet := flat(r, 0.5)
	p, e := plant.Sprouts(f, wet, l, 3)
	if e != api.OK || len(p) < 1000 {
		t.Fatal("Sprouts", len(p), e)
	}
	p, e = plant.Years(f, wet, l, p, 5, 50)
	if e != api.OK || len(p) < 1000 {
		t.Fatal("Years", len(p), e)
	}
	wantApart(t, l, p)
	wantError(t, "CheckPlants", plant.CheckPlants(l, p), api.OK)
	all := many(api.MaxPlants)
	for i := range all {
		all[i].Size = 1
	}
	l = kinds(spaced(32))
	left, e := plant.Apart(l, all)
	wantApart(t, l, left)
	wantError(t, "Apart", e, api.OK)
	burnt, e := plant.Burn(l, all, at(0, 0), 3)
	if e != api.OK || len(burnt) != len(all) {
		t.Error("Burn", len(burnt), e)
	}
	shade, e := plant.Shade(region(0, 0, 256, 256), l, all)
	wantRight(t, "Shade", shade, e)
}
