package noise_test

import (
	"math"
	"slices"
	"testing"

	"tarnfell/api"
	"tarnfell/field"
	"tarnfell/noise"
)

var (
	wildInts    = []int{0, 1, -1, 4, 256, 4096, api.MaxPlace, -api.MaxPlace, api.MaxPlace + 1, 1 << 32, 1<<32 + 1, math.MaxInt, math.MinInt}
	wildSingles = []float32{0, minusZero, 1, -0.5, 0.5, tiny, 64, api.MaxHeight, math.MaxFloat32, -math.MaxFloat32, inf, -inf, nan}
)

// wantRight wants either an error or a field that is right.
func wantRight(t *testing.T, what string, f api.Field, e api.Errno) {
	t.Helper()
	if e != api.OK {
		wantNoField(t, what, f, e, e)
	} else if e := field.Check(f); e != api.OK {
		t.Errorf("%s: the result has the error %d", what, e)
	}
}

// G1, G3: no function panics, whatever its integers are.
func TestWildInts(t *testing.T) {
	f := api.Field{Region: region(0, 0, 2, 1), V: []float32{1, 2}}
	for _, a := range wildInts {
		noise.NewStream(1, a, a).Below(a)
		for _, b := range wildInts {
			noise.Hash(1, a, b, a)
			r := region(a, b, 2, 2)
			g, e := noise.Speckle(r, 1, 0.5)
			wantRight(t, "Speckle", g, e)
			for _, c := range wildInts {
				noise.Value(1, a, b, c)
				noise.Gradient(1, a, b, c)
				noise.Cells(1, a, b, c)
				fractal := api.Fractal{Kind: a, Cell: b, Octaves: c, Gain: 1}
				noise.Fractal(fractal, a, c)
				noise.Warp(api.Warp{Fractal: fractal, Amount: 64}, b, c)
				g, e = noise.Field(fractal, r)
				wantRight(t, "Field", g, e)
				g, e = noise.Warped(f, api.Warp{Fractal: fractal, Amount: 1}, r)
				wantRight(t, "Warped", g, e)
				noise.Scatter(api.Scatter{Cell: a, Share: 1, Apart: c}, region(b, c, 2, 2))
				noise.Scatter(api.Scatter{Cell: a, Share: 1, Apart: c}, region(0, 0, b, 2))
			}
		}
	}
}

// G1, G3, G7: no function panics, whatever its singles are.
func TestWildSingles(t *testing.T) {
	for _, a := range wildSingles {
		noise.Ease(a)
		noise.Scatter(api.Scatter{Cell: 3, Share: a, Apart: 6}, region(0, 0, 9, 9))
		g, e := noise.Speckle(region(0, 0, 2, 2), 1, a)
		wantRight(t, "Speckle", g, e)
		for _, b := range wildSingles {
			f := api.Field{Region: region(0, 0, 2, 1), V: []float32{a, b}}
			for _, c := range wildSingles {
				g, e = noise.Dither(f, 5, c)
				wantRight(t, "Dither", g, e)
			}
			for _, kind := range kinds {
				w := api.Warp{Fractal: api.Fractal{Kind: kind, Cell: 4096, Octaves: 10, Gain: a}, Amount: b}
				noise.Warp(w, 3, 4)
				noise.Margin(w)
				g, e = noise.Warped(f, w, region(0, 0, 2, 1))
				wantRight(t, "Warped", g, e)
				g, e = noise.Field(w.Fractal, region(0, 0, 2, 2))
				wantRight(t, "Field", g, e)
			}
		}
	}
}

// maker is a function that makes a field for a region; f has the region and more.
type maker struct {
	name string
	make func(f api.Field, r api.Region) (api.Field, api.Errno)
}

func makers() []maker {
	fractal := api.Fractal{Kind: api.NoiseCells, Seed: 23, Cell: 9, Octaves: 3, Gain: 0.5}
	return []maker{
		{"Field", func(_ api.Field, r api.Region) (api.Field, api.Errno) { return noise.Field(fractal, r) }},
		{"Speckle", func(_ api.Field, r api.Region) (api.Field, api.Errno) { return noise.Speckle(r, 24, 0.4) }},
		{"Warped", func(f api.Field, r api.Region) (api.Field, api.Errno) {
			return noise.Warped(f, api.Warp{Fractal: fractal, Amount: 2}, r)
		}},
		{"Dither", func(f api.Field, r api.Region) (api.Field, api.Errno) {
			part, e := field.Cut(f, r)
			if e != api.OK {
				return api.Field{}, e
			}
			return noise.Dither(part, 25, 3)
		}},
	}
}

// Chapter 2: what a cell gets is the same in whichever region it is made.
func TestPlacesAlone(t *testing.T) {
	n := &numbers{state: 17}
	whole := region(-20, -10, 30, 25)
	f := n.field(region(-60, -50, 120, 110), 1000)
	for _, m := range makers() {
		all, e := m.make(f, whole)
		if e != api.OK {
			t.Fatal(m.name, e)
		}
		for range 50 {
			r := region(n.between(-20, 0), n.between(-10, 5), n.between(1, 10), n.between(1, 10))
			g, e := m.make(f, r)
			wantCells(t, m.name, g, e, r, func(x, y int) float32 { return valueAt(all, x, y) })
		}
	}
}

// G2: arguments are neither modified nor retained, results share no memory, and calls leave no state.
func TestArgumentsAreLeftAlone(t *testing.T) {
	n := &numbers{state: 18}
	r := region(-3, -3, 6, 6)
	for _, m := range makers() {
		f := n.field(region(-60, -50, 120, 110), 1000)
		f.V = append(f.V, 91, 92, 93)[:len(f.V)]
		room := f.V[:len(f.V)+3]
		kept := slices.Clone(room)
		first, e := m.make(f, r)
		if e != api.OK {
			t.Fatal(m.name, e)
		}
		want := api.Field{Region: r, V: slices.Clone(first.V)}
		scribble(first.V)
		second, e := m.make(f, r)
		wantCells(t, m.name+" once more", second, e, r, func(x, y int) float32 { return valueAt(want, x, y) })
		if !slices.Equal(room, kept) {
			t.Errorf("%s changes its field", m.name)
		}
		scribble(room)
		wantCells(t, m.name+" with another field afterwards", second, e, r, func(x, y int) float32 { return valueAt(want, x, y) })
	}
	s := api.Scatter{Seed: 26, Cell: 3, Share: 0.7, Apart: 2}
	first, _ := noise.Scatter(s, r)
	kept := slices.Clone(first)
	clear(first[:cap(first)])
	wantPlaces(t, s, r, kept)
}

func scribble(v []float32) {
	v = v[:cap(v)]
	for i := range v {
		v[i] = -12345
	}
}

// G2, P33: streams do not disturb each other.
func TestStreamsAreApart(t *testing.T) {
	a, b := noise.NewStream(27, 1, 1), noise.NewStream(27, 1, 1)
	var l []uint32
	for range 10 {
		l = append(l, a.Next())
		noise.NewStream(28, 1, 1).Next()
	}
	for _, want := range l {
		if v := b.Next(); v != want {
			t.Errorf("Next: got %d, want %d", v, want)
		}
	}
}

// G5: the greatest regions, with the most octaves.
func TestGreatestRegions(t *testing.T) {
	r := region(-api.MaxPlace, api.MaxPlace-128, 512, 128)
	f := api.Fractal{Kind: api.NoiseCells, Seed: 29, Cell: 4096, Octaves: 10, Gain: 1}
	g, e := noise.Field(f, r)
	if e != api.OK || g.Region != r {
		t.Error("Field", g.Region, e)
	}
	g, e = noise.Warped(g, api.Warp{Fractal: f}, r)
	if e != api.OK || g.Region != r {
		t.Error("Warped", g.Region, e)
	}
	g, e = noise.Dither(g, 30, 0x1p-10)
	if e != api.OK || g.Region != r {
		t.Error("Dither", g.Region, e)
	}
	if l, e := noise.Scatter(api.Scatter{Seed: 31, Cell: 1, Share: 1, Apart: 2}, r); e != api.OK || len(l) < 1000 {
		t.Error("Scatter", len(l), e)
	}
}
