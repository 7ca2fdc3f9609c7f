package plant

import (
	"tarnfell/api"
	"tarnfell/field"
	"tarnfell/noise"
	"tarnfell/water"
)

// land is a field and its wetness, without an error.
type land struct{ f, wet api.Field }

// landOf gives the errors of both fields, and ErrPlace, if their regions differ.
func landOf(f, wet api.Field) (land, api.Errno) {
	if e := field.Check(f); e != api.OK {
		return land{}, e
	}
	if e := field.Check(wet); e != api.OK {
		return land{}, e
	}
	if f.Region != wet.Region {
		return land{}, api.ErrPlace
	}
	return land{f, wet}, api.OK
}

func (a land) has(p api.Point) bool { return field.Has(a.f.Region, p.X, p.Y) }

// groundAt gives the ground of a cell; its slope need be no height.
func (a land) groundAt(p api.Point) api.Ground {
	i := field.Index(a.f.Region, p.X, p.Y)
	return api.Ground{Height: a.f.V[i], Slope: water.Roughness(a.f, i), Wet: field.Greater(a.wet.V[i], 0)}
}

// Ground is described in doc/06-plant.md, P122.
func Ground(f, wet api.Field, x, y int) (api.Ground, api.Errno) {
	a, e := landOf(f, wet)
	if e != api.OK {
		return api.Ground{}, e
	}
	p := api.Point{X: x, Y: y}
	if !a.has(p) {
		return api.Ground{}, api.ErrPlace
	}
	g := a.groundAt(p)
	if e := field.CheckHeights(g.Slope); e != api.OK {
		return api.Ground{}, e
	}
	return g, api.OK
}

// Fitness is described in doc/06-plant.md, P122.
func Fitness(f, wet api.Field, k api.Kind) (api.Field, api.Errno) {
	a, e := landOf(f, wet)
	if e != api.OK {
		return api.Field{}, e
	}
	if e := CheckKind(k); e != api.OK {
		return api.Field{}, e
	}
	return field.Make(f.Region, func(x, y int) float32 { return suit(k, a.groundAt(api.Point{X: x, Y: y})) })
}

// Sprouts is described in doc/06-plant.md, P124.
func Sprouts(f, wet api.Field, l []api.Kind, seed uint32) ([]api.Plant, api.Errno) {
	a, e := landOf(f, wet)
	if e != api.OK {
		return nil, e
	}
	if e := CheckKinds(l); e != api.OK {
		return nil, e
	}
	var p []api.Plant
	for i := range f.V {
		at := water.Place(f.Region, i)
		kind, chance := bestKind(l, a.groundAt(at))
		if noise.Unit(noise.Hash(seed, at.X, at.Y, forSprout)) < chance {
			p = append(p, api.Plant{Kind: kind, X: at.X, Y: at.Y})
		}
	}
	if len(p) > api.MaxPlants {
		return nil, api.ErrLarge
	}
	return thinned(l, p), api.OK
}

// bestKind gives the kind with the best chance on a ground.
func bestKind(l []api.Kind, g api.Ground) (best int, chance float32) {
	for i, k := range l {
		if c := float32(suit(k, g) * k.Share); c > chance {
			best, chance = i, c
		}
	}
	return best, chance
}
