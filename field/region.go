package field

import "tarnfell/api"

// CheckRegion is described in doc/01-field.md, P1.
func CheckRegion(r api.Region) api.Errno {
	switch {
	case !Within(r.W, 1, api.MaxSide) || !Within(r.H, 1, api.MaxSide):
		return api.ErrRange
	case r.W*r.H > api.MaxCells:
		return api.ErrLarge
	case !hasPlace(r.X, r.W) || !hasPlace(r.Y, r.H):
		return api.ErrPlace
	}
	return api.OK
}

// Inside is described in doc/01-field.md, P1.
func Inside(a, b api.Region) bool {
	return a.X >= b.X && a.Y >= b.Y && a.X+a.W <= b.X+b.W && a.Y+a.H <= b.Y+b.H
}

// Common is described in doc/01-field.md, P1.
func Common(a, b api.Region) (api.Region, bool) {
	x, y := max(a.X, b.X), max(a.Y, b.Y)
	w := min(a.X+a.W, b.X+b.W) - x
	h := min(a.Y+a.H, b.Y+b.H) - y
	if w < 1 || h < 1 {
		return api.Region{}, false
	}
	return api.Region{X: x, Y: y, W: w, H: h}, true
}

// Grow is described in doc/01-field.md, P1.
func Grow(r api.Region, n int) (api.Region, api.Errno) {
	if e := CheckRegion(r); e != api.OK {
		return api.Region{}, e
	}
	if !Within(n, -api.MaxSide, api.MaxSide) {
		return api.Region{}, api.ErrRange
	}
	wide := widen(r, n)
	if e := CheckRegion(wide); e != api.OK {
		return api.Region{}, e
	}
	return wide, api.OK
}

// hasPlace subtracts the length from the limit, because a sum of both could pass the greatest int.
func hasPlace(start, length int) bool {
	return Within(start, -api.MaxPlace, api.MaxPlace-length)
}

func widen(r api.Region, n int) api.Region {
	return api.Region{X: r.X - n, Y: r.Y - n, W: r.W + 2*n, H: r.H + 2*n}
}

func cell(x, y int) api.Region { return api.Region{X: x, Y: y, W: 1, H: 1} }
