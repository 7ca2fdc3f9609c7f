package noise_test

import (
	"math"
	"testing"

	"tarnfell/api"
	"tarnfell/noise"
)

var kinds = []int{api.NoiseValue, api.NoiseGradient, api.NoiseCells, api.NoiseRidge}

// fractals has those of all kinds, with few octaves and with many, also more than the spacing can be halved.
func fractals() []api.Fractal {
	n := &numbers{state: 5}
	var l []api.Fractal
	for _, kind := range kinds {
		for _, cell := range []int{1, 2, 3, 11, 64, 1000, api.MaxLattice} {
			for _, octaves := range []int{1, 2, 5, 10} {
				for _, gain := range []float32{0, minusZero, tiny, 0.5, n.share(), 1} {
					l = append(l, api.Fractal{Kind: kind, Seed: n.next(), Cell: cell, Octaves: octaves, Gain: gain})
				}
			}
		}
	}
	return l
}

// badFractal is a fractal with what CheckFractal says of it.
type badFractal struct {
	f    api.Fractal
	want api.Errno
}

func badFractals() []badFractal {
	good := api.Fractal{Kind: api.NoiseGradient, Seed: 1, Cell: 16, Octaves: 3, Gain: 0.5}
	var l []badFractal
	add := func(want api.Errno, change func(f *api.Fractal)) {
		f := good
		change(&f)
		l = append(l, badFractal{f, want})
	}
	for _, kind := range []int{0, -1, 5, 1<<32 + 1, math.MaxInt, math.MinInt} {
		add(api.ErrKind, func(f *api.Fractal) { f.Kind = kind })
		add(api.ErrKind, func(f *api.Fractal) { f.Kind, f.Cell, f.Octaves, f.Gain = kind, 0, 0, nan })
	}
	for _, n := range []int{0, -1, 1 << 32, 1<<32 + 1, math.MaxInt, math.MinInt, 4097} {
		add(api.ErrRange, func(f *api.Fractal) { f.Cell = n })
		add(api.ErrRange, func(f *api.Fractal) { f.Octaves = n })
		add(api.ErrRange, func(f *api.Fractal) { f.Cell, f.Gain = n, nan })
		add(api.ErrRange, func(f *api.Fractal) { f.Octaves, f.Gain = n, inf })
	}
	add(api.ErrRange, func(f *api.Fractal) { f.Octaves = 11 })
	for _, s := range badSingles(0, 1) {
		add(s.want, func(f *api.Fractal) { f.Gain = s.v })
	}
	return l
}

// P29: what a fractal may be, and the errors, in their order.
func TestCheckFractal(t *testing.T) {
	for _, f := range fractals() {
		if e := noise.CheckFractal(f); e != api.OK {
			t.Error("CheckFractal", f, e)
		}
	}
	for _, s := range badFractals() {
		if e := noise.CheckFractal(s.f); e != s.want {
			t.Errorf("CheckFractal(%v) is %d, want %d", s.f, e, s.want)
		}
	}
}

// P29, G6: Fractal adds octaves, each operation rounded, and is at most Reach.
func TestFractal(t *testing.T) {
	n := &numbers{state: 6}
	for _, f := range fractals() {
		reach, e := noise.Reach(f)
		wantSingle(t, "Reach", reach, e, reachOf(f))
		for range 8 {
			x, y := n.place(), n.between(-2*f.Cell, 2*f.Cell)
			v, e := noise.Fractal(f, x, y)
			wantSingle(t, "Fractal", v, e, fractalNoise(f, x, y))
			if v > reach || v < -reach {
				t.Errorf("Fractal(%v, %d, %d) is %v, but Reach is %v", f, x, y, v, reach)
			}
		}
	}
}

// P29: Fractal and Reach, of known values.
func TestFractalOfKinds(t *testing.T) {
	for _, s := range []struct {
		kind         int
		value, reach float32
	}{
		{api.NoiseValue, -0.3088829517364502, 2.383598566055298},
		{api.NoiseGradient, -0.061110496520996094, 4.767197132110596},
		{api.NoiseCells, 1.360765814781189, 7.150795936584473},
		{api.NoiseRidge, 1.9492156505584717, 2.383598566055298},
	} {
		f := api.Fractal{Kind: s.kind, Seed: 42, Cell: 48, Octaves: 6, Gain: 0.6}
		v, e := noise.Fractal(f, -37, 91)
		wantSingle(t, "Fractal", v, e, s.value)
		v, e = noise.Reach(f)
		wantSingle(t, "Reach", v, e, s.reach)
	}
}

// P29: one octave is the noise itself, with a seed of its own.
func TestOneOctave(t *testing.T) {
	for _, kind := range kinds {
		f := api.Fractal{Kind: kind, Seed: 14, Cell: 20, Octaves: 1, Gain: 1}
		seed := noise.Hash(14, 0, 0, 4)
		gradient, _ := noise.Gradient(seed, 33, -7, 20)
		value, _ := noise.Value(seed, 33, -7, 20)
		near, _, _, _ := noise.Cells(seed, 33, -7, 20)
		want := []float32{0, value, gradient, near, 1 - max(gradient, -gradient)}[kind]
		v, e := noise.Fractal(f, 33, -7)
		wantSingle(t, "Fractal", v, e, want)
		// With the gain 0 further octaves add nothing.
		f.Octaves, f.Gain = 10, 0
		v, e = noise.Fractal(f, 33, -7)
		wantSingle(t, "Fractal", v, e, want)
	}
}

// P29: with the spacing 1 gradients are 0, so that ridges are sums of gains.
func TestRidgesOfOne(t *testing.T) {
	f := api.Fractal{Kind: api.NoiseRidge, Cell: 1, Octaves: 10, Gain: 0.5}
	v, e := noise.Fractal(f, 5, 5)
	wantSingle(t, "Fractal", v, e, 2-0x1p-9)
	v, e = noise.Reach(f)
	wantSingle(t, "Reach", v, e, times(2-0x1p-9, 1.0001))
	f.Gain = 1
	v, e = noise.Fractal(f, 5, 5)
	wantSingle(t, "Fractal", v, e, 10)
}

// P29: Field has the Fractal of each cell of a region.
func TestField(t *testing.T) {
	n := &numbers{state: 7}
	for _, kind := range kinds {
		f := api.Fractal{Kind: kind, Seed: n.next(), Cell: 12, Octaves: 4, Gain: n.share()}
		for _, r := range []api.Region{
			region(-5, -7, 20, 13), region(3, 4, 1, 1), region(n.place()/2, n.place()/2, 9, 30),
			region(-api.MaxPlace, api.MaxPlace-3, 4, 3), region(api.MaxPlace-3, -api.MaxPlace, 3, 4),
		} {
			g, e := noise.Field(f, r)
			wantCells(t, "Field", g, e, r, func(x, y int) float32 { return fractalNoise(f, x, y) })
		}
	}
}

// P29: the errors of Fractal, Field and Reach, and their order.
func TestFractalErrors(t *testing.T) {
	for _, s := range badFractals() {
		v, e := noise.Fractal(s.f, api.MaxPlace+1, 0)
		wantNoSingle(t, "Fractal", v, e, s.want)
		v, e = noise.Reach(s.f)
		wantNoSingle(t, "Reach", v, e, s.want)
		g, e := noise.Field(s.f, region(0, 0, 0, 0))
		wantNoField(t, "Field", g, e, s.want)
		g, e = noise.Field(s.f, region(0, 0, 1, 1))
		wantNoField(t, "Field", g, e, s.want)
	}
	for _, kind := range kinds {
		f := api.Fractal{Kind: kind, Cell: 1, Octaves: 1}
		for _, p := range badPlaces() {
			v, e := noise.Fractal(f, p.X, p.Y)
			wantNoSingle(t, "Fractal", v, e, api.ErrPlace)
		}
		for _, s := range badRegions() {
			g, e := noise.Field(f, s.r)
			wantNoField(t, "Field", g, e, s.want)
		}
	}
	v, e := noise.Fractal(api.Fractal{Kind: api.NoiseCells, Cell: 1, Octaves: 1}, api.MaxPlace, -api.MaxPlace)
	wantSingle(t, "Fractal", v, e, 0)
}
