package recipe

import (
	"tarnfell/api"
	"tarnfell/field"
	"tarnfell/noise"
	"tarnfell/shape"
)

const maxShift = 64

// source is the work of a step without In.
func source(values func(at api.Region) (api.Field, api.Errno), s span) work {
	return work{
		eval:   func(_ []api.Field, at api.Region) (api.Field, api.Errno) { return values(at) },
		bounds: func([]span) span { return s },
	}
}

// change is the work of a step that makes its field of another one, which is larger by the margin.
func change(margin int, values func(f api.Field) (api.Field, api.Errno), bounds func(s span) span) work {
	return work{
		margin: margin,
		eval:   func(in []api.Field, _ api.Region) (api.Field, api.Errno) { return values(in[0]) },
		bounds: func(in []span) span { return bounds(in[0]) },
	}
}

// move is the work of a step whose values are those at other places.
func move(margin int, values func(f api.Field, at api.Region) (api.Field, api.Errno)) work {
	return work{
		margin: margin,
		eval:   func(in []api.Field, at api.Region) (api.Field, api.Errno) { return values(in[0], at) },
		bounds: func(in []span) span { return in[0] },
	}
}

// pair sets up a step that combines two fields.
func pair(op int, bounds func(in []span) span) func([]int, []float32) (work, api.Errno) {
	return func([]int, []float32) (work, api.Errno) {
		return work{
			eval:   func(in []api.Field, _ api.Region) (api.Field, api.Errno) { return field.Combine(op, in[0], in[1]) },
			bounds: bounds,
		}, api.OK
	}
}

func constant(_ []int, v []float32) (work, api.Errno) {
	h := v[0]
	return source(func(at api.Region) (api.Field, api.Errno) { return field.Fill(at, h) }, span{h, h}), api.OK
}

func fractal(i []int, v []float32) api.Fractal {
	return api.Fractal{Kind: i[0], Seed: uint32(i[1]), Cell: i[2], Octaves: i[3], Gain: v[0]}
}

func noisy(i []int, v []float32) (work, api.Errno) {
	f := fractal(i, v)
	reach, e := noise.Reach(f)
	return source(func(at api.Region) (api.Field, api.Errno) { return noise.Field(f, at) }, span{-reach, reach}), e
}

func speckled(i []int, v []float32) (work, api.Errno) {
	seed, share := uint32(i[0]), v[0]
	w := source(func(at api.Region) (api.Field, api.Errno) { return noise.Speckle(at, seed, share) }, span{0, 1})
	return w, tried(w)
}

func scaled(_ []int, v []float32) (work, api.Errno) {
	m, c := v[0], v[1]
	return change(0, func(f api.Field) (api.Field, api.Errno) { return field.Scale(f, m, c) }, func(s span) span {
		return between(float32(s.low*m)+c, float32(s.high*m)+c)
	}), api.OK
}

func clamped(_ []int, v []float32) (work, api.Errno) {
	low, high := v[0], v[1]
	clamp := func(f api.Field) (api.Field, api.Errno) { return field.Clamp(f, low, high) }
	w := change(0, clamp, ends(clamp))
	return w, tried(w)
}

func blended([]int, []float32) (work, api.Errno) {
	return work{
		eval:   func(in []api.Field, _ api.Region) (api.Field, api.Errno) { return field.Blend(in[0], in[1], in[2]) },
		bounds: mixed,
	}, api.OK
}

func selected(_ []int, v []float32) (work, api.Errno) {
	low, high, soft := v[0], v[1], v[2]
	w := change(0, func(f api.Field) (api.Field, api.Errno) { return shape.Select(f, low, high, soft) }, func(span) span {
		return span{0, 1}
	})
	return w, tried(w)
}

func terraced(_ []int, v []float32) (work, api.Errno) {
	step, sharp := v[0], v[1]
	terrace := func(f api.Field) (api.Field, api.Errno) { return shape.Terrace(f, step, sharp) }
	w := change(0, terrace, ends(terrace))
	return w, tried(w)
}

func dithered(i []int, v []float32) (work, api.Errno) {
	seed, step := uint32(i[0]), v[0]
	w := change(0, func(f api.Field) (api.Field, api.Errno) { return noise.Dither(f, seed, step) }, func(s span) span {
		s = s.wider(step)
		return s.wider(s.fraction(0x1p-20))
	})
	return w, tried(w)
}

func stamped(i []int, v []float32) (work, api.Errno) {
	b := api.Brush{Kind: i[0], X: i[1], Y: i[2], Radius: i[3], Height: v[0]}
	return change(0, func(f api.Field) (api.Field, api.Errno) { return shape.Stamp(f, b) }, raised(b.Height)), shape.CheckBrush(b)
}

func faulted(i []int, v []float32) (work, api.Errno) {
	l := api.Fault{A: i[0], B: i[1], C: i[2], Width: i[3], Throw: v[0]}
	return change(0, func(f api.Field) (api.Field, api.Errno) { return shape.Faults(f, []api.Fault{l}) }, raised(l.Throw)), shape.CheckFault(l)
}

func folded(i []int, v []float32) (work, api.Errno) {
	o := api.Fold{A: i[0], B: i[1], Period: i[2], Height: v[0]}
	return change(0, func(f api.Field) (api.Field, api.Errno) { return shape.Folds(f, []api.Fold{o}) }, raised(o.Height)), shape.CheckFold(o)
}

func shifted(i []int, _ []float32) (work, api.Errno) {
	dx, dy := i[0], i[1]
	return move(max(dx, -dx, dy, -dy), func(f api.Field, at api.Region) (api.Field, api.Errno) {
		return field.Make(at, func(x, y int) float32 { return f.V[field.Index(f.Region, x+dx, y+dy)] })
	}), checkWithin(-maxShift, maxShift, dx, dy)
}

func blurred(i []int, _ []float32) (work, api.Errno) {
	radius := i[0]
	return change(radius, func(f api.Field) (api.Field, api.Errno) { return field.Blur(f, radius) }, func(s span) span {
		return s.mean((2*radius + 1) * (2*radius + 1))
	}), checkWithin(0, api.MaxRadius, radius)
}

func weighed(i []int, v []float32) (work, api.Errno) {
	side := i[0]
	return change((side-1)/2, func(f api.Field) (api.Field, api.Errno) { return field.Kernel(f, v, side) }, func(s span) span {
		return s.sum(v)
	}), api.OK
}

func sloped([]int, []float32) (work, api.Errno) { return change(1, shape.Slope, span.slope), api.OK }

func curved([]int, []float32) (work, api.Errno) { return change(1, shape.Curve, span.curve), api.OK }

func shaded(i []int, _ []float32) (work, api.Errno) {
	x, y, z := i[0], i[1], i[2]
	w := change(1, func(f api.Field) (api.Field, api.Errno) { return shape.Shade(f, x, y, z) }, func(span) span {
		return span{0, 1.0001}
	})
	return w, tried(w)
}

func crumbled(i []int, v []float32) (work, api.Errno) {
	wear := api.Wear{Talus: v[0], Rate: v[1], Steps: i[0]}
	return change(wear.Steps, func(f api.Field) (api.Field, api.Errno) { return shape.Thermal(f, wear) }, worn(wear.Steps)), shape.CheckWear(wear)
}

// smoothed takes the limit of the steps of thermal erosion, which is the same.
func smoothed(i []int, _ []float32) (work, api.Errno) {
	steps := i[0]
	return change(steps, func(f api.Field) (api.Field, api.Errno) { return shape.Smooth(f, steps) }, worn(steps)), shape.CheckWear(api.Wear{Steps: steps})
}

func warped(i []int, v []float32) (work, api.Errno) {
	w := api.Warp{Fractal: fractal(i, v), Amount: v[1]}
	margin, e := noise.Margin(w)
	return move(margin, func(f api.Field, at api.Region) (api.Field, api.Errno) { return noise.Warped(f, w, at) }), e
}
