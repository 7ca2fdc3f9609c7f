package shape

import (
	"tarnfell/api"
	"tarnfell/field"
	"tarnfell/noise"
)

// Select is described in doc/03-shape.md, P47.
func Select(f api.Field, low, high, soft float32) (api.Field, api.Errno) {
	if e := field.Check(f); e != api.OK {
		return api.Field{}, e
	}
	if e := field.CheckHeights(low, high, soft); e != api.OK {
		return api.Field{}, e
	}
	switch {
	case low > high:
		return api.Field{}, api.ErrOrder
	case soft < 0:
		return api.Field{}, api.ErrRange
	}
	return remade(f, func(v float32, _, _ int) float32 {
		switch {
		case v < low:
			return fade(low-v, soft)
		case v > high:
			return fade(v-high, soft)
		}
		return 1
	})
}

// fade goes from 1 to 0 while d goes from 0 to soft.
func fade(d, soft float32) float32 {
	if d >= soft {
		return 0
	}
	return 1 - ease(d/soft)
}

// ease is for shares that are from 0 to 1 for certain, of which noise.Ease has no error.
func ease(t float32) float32 {
	v, _ := noise.Ease(t)
	return v
}

// Terrace is described in doc/03-shape.md, P47.
func Terrace(f api.Field, step, sharp float32) (api.Field, api.Errno) {
	if e := field.Check(f); e != api.OK {
		return api.Field{}, e
	}
	if e := field.CheckHeights(step, sharp); e != api.OK {
		return api.Field{}, e
	}
	if step < 0x1p-10 || step > 0x1p10 || sharp < 0 || sharp >= 1 {
		return api.Field{}, api.ErrRange
	}
	return remade(f, func(v float32, _, _ int) float32 {
		q := v / step
		i := field.Floor(q)
		s := q - i
		if s < sharp {
			return i * step
		}
		return (i + (s-sharp)/(1-sharp)) * step
	})
}
