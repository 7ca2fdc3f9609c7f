package water

import (
	"slices"

	"tarnfell/api"
	"tarnfell/field"
)

const maxRain = 1 << 30

// flow is what directions say that have no error: to has for each cell the number of the one to which it leads, or none; order has all cells, each one ahead of that to which it leads.
type flow struct{ to, order []int }

// flowOf gives the flow of directions. Its errors are those of CheckDirs.
func flowOf(r api.Region, dirs []int) (flow, api.Errno) {
	if e := field.CheckRegion(r); e != api.OK {
		return flow{}, e
	}
	if len(dirs) != r.W*r.H {
		return flow{}, api.ErrForm
	}
	to, e := targets(r, dirs)
	if e != api.OK {
		return flow{}, e
	}
	order := downwards(to)
	if len(order) < len(to) {
		return flow{}, api.ErrLoop
	}
	return flow{to, order}, api.OK
}

func targets(r api.Region, dirs []int) ([]int, api.Errno) {
	to := make([]int, len(dirs))
	for i, d := range dirs {
		if !field.Within(d, none, len(directions)-1) {
			return nil, api.ErrRange
		}
		to[i] = none
		if d == none {
			continue
		}
		n, inside := beside(r, Place(r, i), d)
		if !inside {
			return nil, api.ErrPlace
		}
		to[i] = n
	}
	return to, api.OK
}

// downwards puts a cell behind all that lead to it; so the cells of a loop, and those behind it, are left out.
func downwards(to []int) []int {
	waiting := make([]int, len(to))
	for _, n := range to {
		if n != none {
			waiting[n]++
		}
	}
	order := make([]int, 0, len(to))
	for i, many := range waiting {
		if many == 0 {
			order = append(order, i)
		}
	}
	for at := 0; at < len(order); at++ {
		n := to[order[at]]
		if n == none {
			continue
		}
		waiting[n]--
		if waiting[n] == 0 {
			order = append(order, n)
		}
	}
	return order
}

// drainage is the flow of Drain, which makes no errors.
func drainage(f api.Field) flow {
	l, _ := flowOf(f.Region, drain(f))
	return l
}

// CheckDirs is described in doc/04-water.md, P73.
func CheckDirs(r api.Region, dirs []int) api.Errno {
	_, e := flowOf(r, dirs)
	return e
}

// Next is described in doc/04-water.md, P73.
func Next(r api.Region, dirs []int, p api.Point) (api.Point, bool, api.Errno) {
	l, e := flowOf(r, dirs)
	if e != api.OK {
		return api.Point{}, false, e
	}
	if !field.Has(r, p.X, p.Y) {
		return api.Point{}, false, api.ErrPlace
	}
	n := l.to[field.Index(r, p.X, p.Y)]
	if n == none {
		return api.Point{}, false, api.OK
	}
	return Place(r, n), true, api.OK
}

// Gather is described in doc/04-water.md, P74.
func Gather(r api.Region, dirs, rain []int) ([]int, api.Errno) {
	l, e := flowOf(r, dirs)
	if e != api.OK {
		return nil, e
	}
	if e := checkList(r, rain, maxRain); e != api.OK {
		return nil, e
	}
	return l.gather(slices.Clone(rain)), api.OK
}

// gather passes on what falls on each cell, in the list itself.
func (l flow) gather(rain []int) []int {
	for _, i := range l.order {
		if n := l.to[i]; n != none {
			rain[n] += rain[i]
		}
	}
	return rain
}

// Basins is described in doc/04-water.md, P75.
func Basins(r api.Region, dirs []int) ([]int, []api.Point, api.Errno) {
	l, e := flowOf(r, dirs)
	if e != api.OK {
		return nil, nil, e
	}
	numbers := make([]int, len(l.to))
	var mouths []api.Point
	for i, n := range l.to {
		if n == none {
			numbers[i] = len(mouths)
			mouths = append(mouths, Place(r, i))
		}
	}
	l.upwards(func(i, n int) { numbers[i] = numbers[n] })
	return numbers, mouths, api.OK
}

// Far is described in doc/04-water.md, P75.
func Far(r api.Region, dirs []int) ([]float32, api.Errno) {
	l, e := flowOf(r, dirs)
	if e != api.OK {
		return nil, e
	}
	far := make([]float32, len(l.to))
	l.upwards(func(i, n int) { far[i] = Length(dirs[i]) + far[n] })
	return far, api.OK
}

// upwards calls for each cell that leads to another one, behind the call for that one.
func (l flow) upwards(each func(i, n int)) {
	for _, i := range slices.Backward(l.order) {
		if n := l.to[i]; n != none {
			each(i, n)
		}
	}
}
