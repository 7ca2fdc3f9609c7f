package water

import (
	"math"

	"tarnfell/api"
)

// What this file exports is no part of doc/04-water.md: the later chapters need it as this one does.

// Directions is how many there are.
const Directions = 8

var directions = [Directions]api.Point{{X: 1}, {X: 1, Y: 1}, {Y: 1}, {X: -1, Y: 1}, {X: -1}, {X: -1, Y: -1}, {Y: -1}, {X: 1, Y: -1}}

// Onward gives the place that is so many steps away in a direction.
func Onward(p api.Point, d, steps int) api.Point {
	return api.Point{X: p.X + steps*directions[d].X, Y: p.Y + steps*directions[d].Y}
}

// Length is that of a step: 1, and of an odd direction the root of 2, which the conversion rounds as Root2 is.
func Length(d int) float32 {
	if d%2 == 0 {
		return 1
	}
	return float32(math.Sqrt2)
}

// Place is that of the cell number i of a region.
func Place(r api.Region, i int) api.Point { return api.Point{X: r.X + i%r.W, Y: r.Y + i/r.W} }

// Roughness is the greatest difference of the cell number i and those in the four main directions. It need be no height.
func Roughness(f api.Field, i int) float32 {
	var most float32
	for d, n := range neighbours(f.Region, i) {
		if d%2 == 0 {
			most = max(most, f.V[i]-f.V[n], f.V[n]-f.V[i])
		}
	}
	return most
}
