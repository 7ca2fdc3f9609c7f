package noise_test

import (
	"math"
	"slices"

	"tarnfell/api"
)

// This file has the document's formulas, written down another time: slow, and with each operation rounded by way of a double, which never rounds twice.

func times(a, b float32) float32 { return float32(float64(a) * float64(b)) }
func plus(a, b float32) float32  { return float32(float64(a) + float64(b)) }
func minus(a, b float32) float32 { return float32(float64(a) - float64(b)) }
func over(a, b float32) float32  { return float32(float64(a) / float64(b)) }
func root(a float32) float32     { return float32(math.Sqrt(float64(a))) }
func down(a float32) float32     { return float32(math.Floor(float64(a))) }

func hash(seed uint32, integers ...int) uint32 {
	const modulus = 1 << 32
	h := uint64(seed)
	for _, n := range integers {
		h ^= uint64(n) % modulus
		h ^= h / (1 << 16)
		h = h * 2246822507 % modulus
		h ^= h / (1 << 13)
		h = h * 3266489909 % modulus
		h ^= h / (1 << 16)
	}
	return uint32(h)
}

func unit(h uint32) float32 { return float32(h/256) / (1 << 24) }

func eased(t float32) float32 { return times(times(t, t), minus(3, times(2, t))) }

// column is where x lies in a lattice, and the share behind it.
func column(x, cell int) (int, float32) {
	i := int(math.Floor(float64(x) / float64(cell)))
	return i, over(float32(x-i*cell), float32(cell))
}

func mixed(a, b, share float32) float32 { return plus(a, times(minus(b, a), share)) }

func blended(x, y, cell int, corner func(k, l int, dx, dy float32) float32) float32 {
	i, s := column(x, cell)
	j, t := column(y, cell)
	a, b := corner(i, j, s, t), corner(i+1, j, minus(s, 1), t)
	c, d := corner(i, j+1, s, minus(t, 1)), corner(i+1, j+1, minus(s, 1), minus(t, 1))
	return mixed(mixed(a, b, eased(s)), mixed(c, d, eased(s)), eased(t))
}

func valueNoise(seed uint32, x, y, cell int) float32 {
	return blended(x, y, cell, func(k, l int, _, _ float32) float32 {
		return minus(times(unit(hash(seed, k, l, 0)), 2), 1)
	})
}

func gradientNoise(seed uint32, x, y, cell int) float32 {
	gx := []float32{1, 1, 0, -1, -1, -1, 0, 1}
	gy := []float32{0, 1, 1, 1, 0, -1, -1, -1}
	return blended(x, y, cell, func(k, l int, dx, dy float32) float32 {
		m := hash(seed, k, l, 1) % 8
		return plus(times(gx[m], dx), times(gy[m], dy))
	})
}

func centreOf(seed uint32, i, j, cell int) api.Point {
	return api.Point{X: i*cell + int(hash(seed, i, j, 2))%cell, Y: j*cell + int(hash(seed, i, j, 3))%cell}
}

func squareOf(p, q api.Point) int { return (p.X-q.X)*(p.X-q.X) + (p.Y-q.Y)*(p.Y-q.Y) }

func cellNoise(seed uint32, x, y, cell int) (near, next float32, at api.Point) {
	i, _ := column(x, cell)
	j, _ := column(y, cell)
	here := api.Point{X: x, Y: y}
	var l []api.Point
	for b := j - 1; b <= j+1; b++ {
		for a := i - 1; a <= i+1; a++ {
			l = append(l, centreOf(seed, a, b, cell))
		}
	}
	slices.SortStableFunc(l, func(p, q api.Point) int { return squareOf(here, p) - squareOf(here, q) })
	distance := func(p api.Point) float32 { return over(root(float32(squareOf(here, p))), float32(cell)) }
	return distance(l[0]), distance(l[1]), l[0]
}

func fractalNoise(f api.Fractal, x, y int) float32 {
	s, a := float32(0), float32(1)
	for k := range f.Octaves {
		seed, cell := hash(f.Seed, k, 0, 4), f.Cell
		for range k {
			cell /= 2
		}
		cell = max(cell, 1)
		n := nan
		switch f.Kind {
		case api.NoiseValue:
			n = valueNoise(seed, x, y, cell)
		case api.NoiseGradient:
			n = gradientNoise(seed, x, y, cell)
		case api.NoiseCells:
			n, _, _ = cellNoise(seed, x, y, cell)
		case api.NoiseRidge:
			n = gradientNoise(seed, x, y, cell)
			n = minus(1, max(n, -n))
		}
		s, a = plus(s, times(a, n)), times(a, f.Gain)
	}
	return s
}

func reachOf(f api.Fractal) float32 {
	bound := []float32{nan, 1, 2, 3, 1}[f.Kind]
	s, a := float32(0), float32(1)
	for range f.Octaves {
		s, a = plus(s, times(a, bound)), times(a, f.Gain)
	}
	return times(s, 1.0001)
}

func warped(w api.Warp, x, y int) api.Point {
	other := w.Fractal
	other.Seed = hash(w.Seed, 1, 1, 5)
	dx := down(plus(times(fractalNoise(w.Fractal, x, y), w.Amount), 0.5))
	dy := down(plus(times(fractalNoise(other, x, y), w.Amount), 0.5))
	return api.Point{X: x + int(dx), Y: y + int(dy)}
}

// scattered compares all candidates with each other, of a region that is larger than needed.
func scattered(s api.Scatter, r api.Region) []api.Point {
	type candidate struct {
		api.Point
		rank uint32
		i, j int
	}
	var l []candidate
	i0, _ := column(r.X, s.Cell)
	i1, _ := column(r.X+r.W-1, s.Cell)
	j0, _ := column(r.Y, s.Cell)
	j1, _ := column(r.Y+r.H-1, s.Cell)
	for j := j0 - 4; j <= j1+4; j++ {
		for i := i0 - 4; i <= i1+4; i++ {
			if unit(hash(s.Seed, i, j, 6)) < s.Share {
				l = append(l, candidate{centreOf(s.Seed, i, j, s.Cell), hash(s.Seed, i, j, 7), i, j})
			}
		}
	}
	var chosen []api.Point
	for _, c := range l {
		beaten := slices.ContainsFunc(l, func(d candidate) bool {
			first := d.rank < c.rank || d.rank == c.rank && (d.j < c.j || d.j == c.j && d.i < c.i)
			return first && squareOf(c.Point, d.Point) <= s.Apart*s.Apart
		})
		if !beaten && c.X >= r.X && c.X < r.X+r.W && c.Y >= r.Y && c.Y < r.Y+r.H {
			chosen = append(chosen, c.Point)
		}
	}
	slices.SortFunc(chosen, func(p, q api.Point) int { return (p.Y-q.Y)<<32 + p.X - q.X })
	return chosen
}

func dithered(v float32, seed uint32, x, y int, step float32) float32 {
	q := over(v, step)
	i := down(q)
	if unit(hash(seed, x, y, 8)) < minus(q, i) {
		return times(plus(i, 1), step)
	}
	return times(i, step)
}

func shaken(s uint32) uint32 {
	s = s ^ s*(1<<13)
	s = s ^ s/(1<<17)
	return s ^ s*(1<<5)
}
