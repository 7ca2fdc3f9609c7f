package plant

import (
	"tarnfell/api"
	"tarnfell/field"
	"tarnfell/noise"
	"tarnfell/water"
)

// noWind is the direction of no wind.
const noWind = -1

const (
	reachOfSpark = 3 // of a fire at its beginning
	reachOfWind  = 2 // how much further a fire goes with the wind
)

// Cover is described in doc/06-plant.md, P130.
func Cover(r api.Region, l []api.Kind, p []api.Plant) (api.Field, api.Errno) {
	return overlay(r, l, p, field.Greater, func(v api.Plant) float32 {
		top := l[v.Kind].Top
		if top == 0 {
			return 0
		}
		return v.Size / top
	})
}

// Shade is described in doc/06-plant.md, P130.
func Shade(r api.Region, l []api.Kind, p []api.Plant) (api.Field, api.Errno) {
	return overlay(r, l, p, plus, func(v api.Plant) float32 { return v.Size })
}

// overlay joins, for each cell, what is left there of the strengths of the plants that reach it, in the order of the list.
func overlay(r api.Region, l []api.Kind, p []api.Plant, join func(a, b float32) float32, strength func(v api.Plant) float32) (api.Field, api.Errno) {
	if e := field.CheckRegion(r); e != api.OK {
		return api.Field{}, e
	}
	if e := CheckPlants(l, p); e != api.OK {
		return api.Field{}, e
	}
	cells := make([]tally, r.W*r.H)
	for _, v := range p {
		full, space := strength(v), l[v.Kind].Space
		both, _ := field.Common(r, api.Region{X: v.X - space, Y: v.Y - space, W: 2*space + 1, H: 2*space + 1})
		for i := range both.W * both.H {
			at := water.Place(both, i)
			if left, some := fade(full, noise.Square(placeOf(v), at), space+1); some {
				cells[field.Index(r, at.X, at.Y)].take(left, join)
			}
		}
	}
	return field.Make(r, func(x, y int) float32 { return cells[field.Index(r, x, y)].value })
}

// Burn is described in doc/06-plant.md, P131.
func Burn(l []api.Kind, p []api.Plant, at api.Point, wind int) ([]int, api.Errno) {
	if e := CheckPlants(l, p); e != api.OK {
		return nil, e
	}
	if e := noise.CheckPlace(at.X, at.Y); e != api.OK {
		return nil, e
	}
	if !field.Within(wind, noWind, water.Directions-1) {
		return nil, api.ErrRange
	}
	burns := make([]bool, len(p))
	var front []int
	light := func(i int) {
		if !burns[i] && !resists(l, p[i]) {
			burns[i] = true
			front = append(front, i)
		}
	}
	for i := range near(p, at, reachOfSpark) {
		light(i)
	}
	for len(front) > 0 {
		i := front[0]
		front = front[1:]
		for n, square := range near(p, placeOf(p[i]), l[p[i].Kind].Space+maxSpace+1+reachOfWind) {
			if r := reachOfFire(l, p[i], p[n], wind); square <= r*r {
				light(n)
			}
		}
	}
	return numbersOf(burns), api.OK
}

// resists reports whether the bark of a plant keeps it from burning.
func resists(l []api.Kind, v api.Plant) bool {
	return l[v.Kind].Bark >= noise.Unit(noise.Hash(seedOfBark, v.X, v.Y, forBark))
}

// reachOfFire is how far away a plant may be that another one lights.
func reachOfFire(l []api.Kind, from, to api.Plant, wind int) int {
	reach := l[from.Kind].Space + l[to.Kind].Space + 1
	if wind == noWind {
		return reach
	}
	if w := water.Onward(api.Point{}, wind, 1); (to.X-from.X)*w.X+(to.Y-from.Y)*w.Y > 0 {
		reach += reachOfWind
	}
	return reach
}

// numbersOf gives the numbers at which something is, rising.
func numbersOf(is []bool) []int {
	var l []int
	for i, b := range is {
		if b {
			l = append(l, i)
		}
	}
	return l
}

// Count is described in doc/06-plant.md, P132.
func Count(l []api.Kind, p []api.Plant) ([]api.Census, api.Errno) {
	if e := CheckPlants(l, p); e != api.OK {
		return nil, e
	}
	counts, sums := make([]api.Census, len(l)), make([]tally, len(l))
	for _, v := range p {
		c := &counts[v.Kind]
		c.Many++
		if !isGrown(l, v) {
			c.Young++
		}
		c.Oldest = max(c.Oldest, v.Age)
		sums[v.Kind].take(v.Size, plus)
	}
	for i := range counts {
		if c := &counts[i]; c.Many > 0 {
			c.Sum = sums[i].value
			c.Mean = c.Sum / float32(c.Many)
		}
	}
	return counts, api.OK
}

// Nearest is described in doc/06-plant.md, P132.
func Nearest(p []api.Plant, at api.Point) (int, api.Errno) {
	switch {
	case len(p) == 0:
		return 0, api.ErrNone
	case len(p) > api.MaxPlants:
		return 0, api.ErrLarge
	}
	for _, v := range p {
		if e := noise.CheckPlace(v.X, v.Y); e != api.OK {
			return 0, e
		}
	}
	if e := noise.CheckPlace(at.X, at.Y); e != api.OK {
		return 0, e
	}
	best, least := 0, noise.Square(at, placeOf(p[0]))
	for i, v := range p {
		if s := noise.Square(at, placeOf(v)); s < least {
			best, least = i, s
		}
	}
	return best, api.OK
}
