package noise

import (
	"tarnfell/api"
	"tarnfell/field"
)

// Dither is described in doc/02-noise.md, P32.
func Dither(f api.Field, seed uint32, step float32) (api.Field, api.Errno) {
	if e := field.Check(f); e != api.OK {
		return api.Field{}, e
	}
	if e := field.CheckWithin(step, 0x1p-10, 0x1p10); e != api.OK {
		return api.Field{}, e
	}
	return field.Make(f.Region, func(x, y int) float32 {
		q := f.V[field.Index(f.Region, x, y)] / step
		i := field.Floor(q)
		if Unit(Hash(seed, x, y, forDither)) < q-i {
			i++
		}
		return i * step
	})
}

// Speckle is described in doc/02-noise.md, P32.
func Speckle(r api.Region, seed uint32, share float32) (api.Field, api.Errno) {
	if e := field.CheckRegion(r); e != api.OK {
		return api.Field{}, e
	}
	if e := field.CheckWithin(share, 0, 1); e != api.OK {
		return api.Field{}, e
	}
	return field.Make(r, func(x, y int) float32 {
		if Unit(Hash(seed, x, y, forSpeckle)) < share {
			return 1
		}
		return 0
	})
}
