package field

import "tarnfell/api"

// Kernel is described in doc/01-field.md, P8.
func Kernel(f api.Field, k []float32, side int) (api.Field, api.Errno) {
	if e := Check(f); e != api.OK {
		return api.Field{}, e
	}
	if !Within(side, 1, api.MaxKernel) || side%2 == 0 {
		return api.Field{}, api.ErrRange
	}
	if len(k) != side*side {
		return api.Field{}, api.ErrForm
	}
	if e := CheckHeights(k...); e != api.OK {
		return api.Field{}, e
	}
	return around(f, (side-1)/2, func(values []float32) float32 { return weigh(k, values) })
}

// weigh begins with the first product, not with 0, which would make a 0 of a -0.
func weigh(weights, values []float32) float32 {
	sum := float32(weights[0] * values[0])
	for i, v := range values[1:] {
		sum += float32(weights[i+1] * v)
	}
	return sum
}

// Blur is described in doc/01-field.md, P8.
func Blur(f api.Field, radius int) (api.Field, api.Errno) {
	if e := Check(f); e != api.OK {
		return api.Field{}, e
	}
	if !Within(radius, 0, api.MaxRadius) {
		return api.Field{}, api.ErrRange
	}
	return around(f, radius, func(values []float32) float32 {
		return sumRows(values) / float32(len(values))
	})
}

// around makes a field of what of gives for the values around each cell, which it gets row by row.
func around(f api.Field, radius int, of func(values []float32) float32) (api.Field, api.Errno) {
	r := widen(f.Region, -radius)
	if r.W < 1 || r.H < 1 {
		return api.Field{}, api.ErrEmpty
	}
	side := 2*radius + 1
	values := make([]float32, side*side)
	return byPlace(r, func(x, y int) float32 {
		first := Index(f.Region, x-radius, y-radius)
		for row := range side {
			copy(values[row*side:(row+1)*side], f.V[first+row*f.W:])
		}
		return of(values)
	})
}
