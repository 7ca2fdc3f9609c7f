package water

import (
	"math"

	"tarnfell/api"
	"tarnfell/field"
)

// Steep is described in doc/04-water.md, P71.
func Steep(f api.Field) ([]int, api.Errno) {
	if e := field.Check(f); e != api.OK {
		return nil, e
	}
	return steep(f), api.OK
}

func steep(f api.Field) []int {
	dirs := make([]int, len(f.V))
	for i := range dirs {
		dirs[i], _ = steepest(f, i)
	}
	return dirs
}

// steepest gives the direction in which it goes down most from a cell, and by how much; none and 0, if it goes down nowhere.
func steepest(f api.Field, i int) (int, float32) {
	way, most := none, float32(0)
	for d, n := range neighbours(f.Region, i) {
		if drop := (f.V[i] - f.V[n]) / Length(d); drop > most {
			way, most = d, drop
		}
	}
	return way, most
}

// Drain is described in doc/04-water.md, P72.
func Drain(f api.Field) ([]int, api.Errno) {
	if e := field.Check(f); e != api.OK {
		return nil, e
	}
	return drain(f), api.OK
}

func drain(f api.Field) []int {
	w := surface(f)
	dirs := steep(w)
	ranks := ranksOf(w, dirs)
	for i, rank := range ranks {
		if rank > 0 {
			dirs[i] = across(w, ranks, i)
		}
	}
	return dirs
}

// surface is that of the water when all pits are full.
func surface(f api.Field) api.Field {
	return api.Field{Region: f.Region, V: leastSpills(f, 0)}
}

// ranksOf tells over how many cells of one height water goes up to a cell from which it falls, or leaves. All cells have a rank: the ways by which a pit has been filled lead to such a cell.
func ranksOf(w api.Field, steep []int) []int {
	ranks := make([]int, len(steep))
	var queue []int
	for i, d := range steep {
		if d != none || isBorder(w.Region, i) {
			queue = append(queue, i)
		} else {
			ranks[i] = none
		}
	}
	for at := 0; at < len(queue); at++ {
		i := queue[at]
		for _, n := range neighbours(w.Region, i) {
			if ranks[n] == none && w.V[n] == w.V[i] {
				ranks[n] = ranks[i] + 1
				queue = append(queue, n)
			}
		}
	}
	return ranks
}

// across gives the direction of the first one of the neighbours of the same height whose rank is the least.
func across(w api.Field, ranks []int, i int) int {
	way, least := none, math.MaxInt
	for d, n := range neighbours(w.Region, i) {
		if w.V[n] == w.V[i] && ranks[n] < least {
			way, least = d, ranks[n]
		}
	}
	return way
}
