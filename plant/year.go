package plant

import (
	"slices"

	"tarnfell/api"
	"tarnfell/field"
	"tarnfell/noise"
)

// maxMany is the most that Years goes on at once.
const maxMany = 50

// settled gives the errors of fields, of plants, and ErrPlace, if one of all is not on the land.
func settled(f, wet api.Field, l []api.Kind, p []api.Plant) (land, api.Errno) {
	a, e := landOf(f, wet)
	if e != api.OK {
		return land{}, e
	}
	if e := CheckPlants(l, p); e != api.OK {
		return land{}, e
	}
	for _, v := range p {
		if !a.has(placeOf(v)) {
			return land{}, api.ErrPlace
		}
	}
	return a, api.OK
}

// Grow is described in doc/06-plant.md, P127.
func Grow(f, wet api.Field, l []api.Kind, p []api.Plant) ([]api.Plant, api.Errno) {
	a, e := settled(f, wet, l, p)
	if e != api.OK {
		return nil, e
	}
	if hasOldest(p) {
		return nil, api.ErrRange
	}
	return a.grown(l, p), api.OK
}

// hasOldest reports whether a plant can have no greater age.
func hasOldest(p []api.Plant) bool {
	return slices.ContainsFunc(p, func(v api.Plant) bool { return v.Age >= api.MaxYears })
}

// grown gives the plants that are alive after a year; it asks for no age.
func (a land) grown(l []api.Kind, p []api.Plant) []api.Plant {
	var alive []api.Plant
	for i, v := range p {
		k := l[v.Kind]
		s := suit(k, a.groundAt(placeOf(v)))
		gain := float32(k.Pace*s) / (1 + crowd(l, p, i))
		if s == 0 || gain < v.Size/64 {
			continue
		}
		v.Size = field.Lesser(v.Size+gain, k.Top)
		v.Age++
		alive = append(alive, v)
	}
	return alive
}

// Seeds is described in doc/06-plant.md, P128.
func Seeds(f, wet api.Field, l []api.Kind, p []api.Plant, seed uint32, year int) ([]api.Plant, api.Errno) {
	a, e := settled(f, wet, l, p)
	if e != api.OK {
		return nil, e
	}
	if !field.Within(year, 0, api.MaxYears) {
		return nil, api.ErrRange
	}
	return a.seeded(l, p, seed^uint32(year))
}

// seeded adds the seeds of a year. Error: ErrLarge.
func (a land) seeded(l []api.Kind, p []api.Plant, seed uint32) ([]api.Plant, api.Errno) {
	taken := make(map[api.Point]bool)
	for _, v := range p {
		taken[placeOf(v)] = true
	}
	all := slices.Clone(p)
	for _, v := range p {
		if !isGrown(l, v) || v.Size == 0 {
			continue
		}
		k := l[v.Kind]
		to := thrown(v, k.Throw, seed)
		if !a.has(to) || taken[to] || suit(k, a.groundAt(to)) == 0 {
			continue
		}
		taken[to] = true
		all = append(all, api.Plant{Kind: v.Kind, X: to.X, Y: to.Y})
	}
	if len(all) > api.MaxPlants {
		return nil, api.ErrLarge
	}
	slices.SortFunc(all, byPlace)
	return all, api.OK
}

// thrown tells where the seed of a plant falls.
func thrown(v api.Plant, far int, seed uint32) api.Point {
	chances := noise.NewStream(seed, v.X, v.Y)
	dx, _ := chances.Below(2*far + 1)
	dy, _ := chances.Below(2*far + 1)
	return api.Point{X: v.X + dx - far, Y: v.Y + dy - far}
}

// Years is described in doc/06-plant.md, P129.
func Years(f, wet api.Field, l []api.Kind, p []api.Plant, seed uint32, many int) ([]api.Plant, api.Errno) {
	a, e := settled(f, wet, l, p)
	if e != api.OK {
		return nil, e
	}
	if !field.Within(many, 0, maxMany) {
		return nil, api.ErrRange
	}
	p = slices.Clone(p)
	tooOld := false
	for year := range many {
		// An age is the last error that is mentioned, so that all years are asked for ErrLarge first.
		tooOld = tooOld || hasOldest(p)
		p, e = a.seeded(l, a.grown(l, p), seed^uint32(year))
		if e != api.OK {
			return nil, e
		}
		p = thinned(l, p)
	}
	if tooOld {
		return nil, api.ErrRange
	}
	return p, api.OK
}
