package noise

import (
	"tarnfell/api"
	"tarnfell/field"
)

// CheckWarp is described in doc/02-noise.md, P30.
func CheckWarp(w api.Warp) api.Errno {
	if e := CheckFractal(w.Fractal); e != api.OK {
		return e
	}
	return field.CheckWithin(w.Amount, 0, api.MaxAmount)
}

// Warp is described in doc/02-noise.md, P30.
func Warp(w api.Warp, x, y int) (api.Point, api.Errno) {
	if e := CheckWarp(w); e != api.OK {
		return api.Point{}, e
	}
	if e := CheckPlace(x, y); e != api.OK {
		return api.Point{}, e
	}
	return warp(w, x, y), api.OK
}

func warp(w api.Warp, x, y int) api.Point {
	move := func(f api.Fractal) int {
		return int(field.Floor(float32(fractal(f, x, y)*w.Amount) + 0.5))
	}
	across, down := w.Fractal, w.Fractal
	down.Seed = Hash(w.Seed, 1, 1, forWarp)
	return api.Point{X: x + move(across), Y: y + move(down)}
}

// Margin is described in doc/02-noise.md, P30.
func Margin(w api.Warp) (int, api.Errno) {
	if e := CheckWarp(w); e != api.OK {
		return 0, e
	}
	return int(field.Floor(reach(w.Fractal)*w.Amount)) + 1, api.OK
}

// Warped is described in doc/02-noise.md, P30.
func Warped(f api.Field, w api.Warp, r api.Region) (api.Field, api.Errno) {
	if e := CheckWarp(w); e != api.OK {
		return api.Field{}, e
	}
	if e := field.Check(f); e != api.OK {
		return api.Field{}, e
	}
	missing := false
	g, e := field.Make(r, func(x, y int) float32 {
		p := warp(w, x, y)
		if !field.Has(f.Region, p.X, p.Y) {
			missing = true
			return 0
		}
		return f.V[field.Index(f.Region, p.X, p.Y)]
	})
	if missing {
		return api.Field{}, api.ErrPlace
	}
	return g, e
}
