package water

import (
	"slices"

	"tarnfell/api"
	"tarnfell/field"
	"tarnfell/noise"
)

const (
	maxShower = 1 << 20
	forRain   = 2
)

// Wet is described in doc/04-water.md, P83.
func Wet(f api.Field, amounts []int) (api.Field, api.Errno) {
	if e := field.Check(f); e != api.OK {
		return api.Field{}, e
	}
	if e := checkList(f.Region, amounts, maxAmount); e != api.OK {
		return api.Field{}, e
	}
	return byCell(f.Region, func(i int) float32 {
		_, drop := steepest(f, i)
		return field.Root(float32(amounts[i])) / (1 + drop)
	})
}

// CheckSnow is described in doc/04-water.md, P84.
func CheckSnow(s api.Snow) api.Errno {
	if e := field.CheckHeights(s.Line, s.Rate, s.Most, s.Hold); e != api.OK {
		return e
	}
	if s.Rate < 0 || s.Most < 0 || s.Hold < 0 {
		return api.ErrRange
	}
	return api.OK
}

// Snow is described in doc/04-water.md, P84.
func Snow(f api.Field, s api.Snow) (api.Field, api.Errno) {
	if e := field.Check(f); e != api.OK {
		return api.Field{}, e
	}
	if e := CheckSnow(s); e != api.OK {
		return api.Field{}, e
	}
	return byCell(f.Region, func(i int) float32 { return snowAt(f, s, i) })
}

func snowAt(f api.Field, s api.Snow, i int) float32 {
	d := float32((f.V[i] - s.Line) * s.Rate)
	if d <= 0 {
		return 0
	}
	slant := Roughness(f, i)
	if slant >= s.Hold {
		return 0
	}
	return float32(field.Lesser(d, s.Most) * (1 - slant/s.Hold))
}

// Melt is described in doc/04-water.md, P85.
func Melt(f, snow api.Field, warm float32) (api.Field, []int, api.Errno) {
	if e := checkMelt(f, snow, warm); e != api.OK {
		return api.Field{}, nil, e
	}
	melted := make([]int, len(f.V))
	left, e := byCell(f.Region, func(i int) float32 {
		v := snow.V[i] - warm/(1+field.Greater(0, f.V[i]))
		if v < 0 {
			v = 0
		}
		melted[i] = int(field.Floor(float32((snow.V[i] - v) * 1024)))
		return v
	})
	return left, melted, e
}

func checkMelt(f, snow api.Field, warm float32) api.Errno {
	if e := field.Check(f); e != api.OK {
		return e
	}
	if e := field.Check(snow); e != api.OK {
		return e
	}
	if e := field.CheckHeights(warm); e != api.OK {
		return e
	}
	if f.Region != snow.Region {
		return api.ErrPlace
	}
	if warm < 0 || slices.ContainsFunc(snow.V, func(v float32) bool { return v < 0 }) {
		return api.ErrRange
	}
	return api.OK
}

// Shower is described in doc/04-water.md, P86.
func Shower(r api.Region, seed uint32, most int) ([]int, api.Errno) {
	if e := field.CheckRegion(r); e != api.OK {
		return nil, e
	}
	if !field.Within(most, 0, maxShower) {
		return nil, api.ErrRange
	}
	rain := make([]int, r.W*r.H)
	for i := range rain {
		p := Place(r, i)
		rain[i] = int(noise.Hash(seed, p.X, p.Y, forRain) % uint32(most+1))
	}
	return rain, api.OK
}
