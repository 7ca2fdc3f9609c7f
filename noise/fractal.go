package noise

import (
	"math"

	"tarnfell/api"
	"tarnfell/field"
)

const maxOctaves = 10

// CheckFractal is described in doc/02-noise.md, P29.
func CheckFractal(f api.Fractal) api.Errno {
	if _, _, known := noiseOf(f.Kind); !known {
		return api.ErrKind
	}
	if !field.Within(f.Cell, 1, api.MaxLattice) || !field.Within(f.Octaves, 1, maxOctaves) {
		return api.ErrRange
	}
	return field.CheckWithin(f.Gain, 0, 1)
}

// noiseOf gives the noise of a kind, and a bound for its magnitude.
func noiseOf(kind int) (noise func(seed uint32, x, y, cell int) float32, bound float32, known bool) {
	switch kind {
	case api.NoiseValue:
		return value, 1, true
	case api.NoiseGradient:
		return gradient, 2, true
	case api.NoiseCells:
		return nearest, 3, true
	case api.NoiseRidge:
		return ridge, 1, true
	}
	return nil, 0, false
}

func nearest(seed uint32, x, y, cell int) float32 {
	near, _, _ := cells(seed, x, y, cell)
	return near
}

func ridge(seed uint32, x, y, cell int) float32 {
	return 1 - float32(math.Abs(float64(gradient(seed, x, y, cell))))
}

// addOctaves adds what the octaves have, each times its weight.
func addOctaves(f api.Fractal, octave func(k int) float32) float32 {
	var sum float32
	weight := float32(1)
	for k := range f.Octaves {
		sum += float32(weight * octave(k))
		weight *= f.Gain
	}
	return sum
}

// Fractal is described in doc/02-noise.md, P29.
func Fractal(f api.Fractal, x, y int) (float32, api.Errno) {
	if e := CheckFractal(f); e != api.OK {
		return 0, e
	}
	if e := CheckPlace(x, y); e != api.OK {
		return 0, e
	}
	return fractal(f, x, y), api.OK
}

func fractal(f api.Fractal, x, y int) float32 {
	noise, _, _ := noiseOf(f.Kind)
	return addOctaves(f, func(k int) float32 {
		return noise(Hash(f.Seed, k, 0, forOctave), x, y, max(f.Cell>>k, 1))
	})
}

// Reach is described in doc/02-noise.md, P29.
func Reach(f api.Fractal) (float32, api.Errno) {
	if e := CheckFractal(f); e != api.OK {
		return 0, e
	}
	return reach(f), api.OK
}

func reach(f api.Fractal) float32 {
	_, bound, _ := noiseOf(f.Kind)
	return addOctaves(f, func(int) float32 { return bound }) * 1.0001
}

// Field is described in doc/02-noise.md, P29.
func Field(f api.Fractal, r api.Region) (api.Field, api.Errno) {
	if e := CheckFractal(f); e != api.OK {
		return api.Field{}, e
	}
	return field.Make(r, func(x, y int) float32 { return fractal(f, x, y) })
}
