package road

import (
	"tarnfell/api"
	"tarnfell/field"
	"tarnfell/noise"
	"tarnfell/water"
)

const (
	maxRounded = 200
	maxTimes   = 6
)

// Price is described in doc/05-road.md, P103.
func Price(f api.Field, s api.RoadRules, way []api.Point) (float32, api.Errno) {
	g, e := groundOf(f, s)
	if e != api.OK {
		return 0, e
	}
	if len(way) == 0 {
		return 0, api.ErrEmpty
	}
	e = checkEach(way, api.MaxCells, func(_ int, p api.Point) api.Errno { return checkInside(f, p) })
	if e != api.OK {
		return 0, e
	}
	var price float32
	for i, p := range way[1:] {
		cost, possible := g.costTo(way[i], p)
		if !possible {
			return 0, api.ErrNone
		}
		price += cost
	}
	return price, api.OK
}

// stepsOf gives the steps of a way. Errors: those of ways, with that of check for a place.
func stepsOf(way []api.Point, check func(p api.Point) api.Errno) ([]step, api.Errno) {
	return stepsUpTo(api.MaxSpan, way, check)
}

// stepsUpTo permits other lengths of steps than those of bridges.
func stepsUpTo(longest int, way []api.Point, check func(p api.Point) api.Errno) ([]step, api.Errno) {
	if len(way) == 0 {
		return nil, api.ErrEmpty
	}
	var steps []step
	e := checkEach(way, api.MaxCells, func(i int, p api.Point) api.Errno {
		if e := check(p); e != api.OK || i == 0 {
			return e
		}
		s, is := stepTo(way[i-1], p)
		if !is || s.n > longest {
			return api.ErrForm
		}
		steps = append(steps, s)
		return api.OK
	})
	if e != api.OK {
		return nil, e
	}
	return steps, api.OK
}

// inPlane is the check of the places of a way without a field.
func inPlane(p api.Point) api.Errno { return noise.CheckPlace(p.X, p.Y) }

// stepsIn gives the steps of a way in a field. Errors: field.Check's; those of ways.
func stepsIn(f api.Field, way []api.Point) ([]step, api.Errno) {
	if e := field.Check(f); e != api.OK {
		return nil, e
	}
	return stepsOf(way, func(p api.Point) api.Errno { return checkInside(f, p) })
}

// Bridges is described in doc/05-road.md, P104.
func Bridges(way []api.Point) ([]int, api.Errno) {
	steps, e := stepsOf(way, inPlane)
	if e != api.OK {
		return nil, e
	}
	var bridges []int
	for i, s := range steps {
		if s.isBridge() {
			bridges = append(bridges, i+1)
		}
	}
	return bridges, api.OK
}

// Length is described in doc/05-road.md, P104.
func Length(way []api.Point) (float32, api.Errno) {
	steps, e := stepsOf(way, inPlane)
	if e != api.OK {
		return 0, e
	}
	var length float32
	for _, s := range steps {
		length += s.length()
	}
	if e := field.CheckHeights(length); e != api.OK {
		return 0, e
	}
	return length, api.OK
}

// Grades is described in doc/05-road.md, P104.
func Grades(f api.Field, way []api.Point) ([]float32, api.Errno) {
	steps, e := stepsIn(f, way)
	if e != api.OK {
		return nil, e
	}
	heights := heightsOf(f, way)
	grades := make([]float32, len(steps))
	for i, s := range steps {
		grades[i] = s.grade(heights[i], heights[i+1])
	}
	if e := field.CheckHeights(grades...); e != api.OK {
		return nil, e
	}
	return grades, api.OK
}

func heightsOf(f api.Field, way []api.Point) []float32 {
	heights := make([]float32, len(way))
	for i, p := range way {
		heights[i] = f.V[number(f, p)]
	}
	return heights
}

// Corners is described in doc/05-road.md, P107.
func Corners(way []api.Point) ([]api.Point, api.Errno) {
	steps, e := stepsOf(way, inPlane)
	if e != api.OK {
		return nil, e
	}
	var corners []api.Point
	for i, p := range way {
		if i == 0 || i == len(steps) || turns(steps[i-1], steps[i]) {
			corners = append(corners, p)
		}
	}
	return corners, api.OK
}

// turns reports whether a way turns between two steps.
func turns(a, b step) bool { return a.d != b.d || a.isBridge() || b.isBridge() }

// Straight is described in doc/05-road.md, P107.
func Straight(l []api.Point) ([]api.Point, api.Errno) {
	steps, e := stepsUpTo(2*api.MaxPlace, l, inPlane)
	if e != api.OK {
		return nil, e
	}
	many := 1
	for _, s := range steps {
		many += s.n
	}
	if many > api.MaxCells {
		return nil, api.ErrLarge
	}
	way := append(make([]api.Point, 0, many), l[0])
	for i, s := range steps {
		for n := range s.n {
			way = append(way, water.Onward(l[i], s.d, n+1))
		}
	}
	return way, api.OK
}

// Rounded is described in doc/05-road.md, P107.
func Rounded(l []api.Point, times int) ([]api.Spot, api.Errno) {
	if len(l) == 0 {
		return nil, api.ErrEmpty
	}
	e := checkEach(l, maxRounded, func(_ int, p api.Point) api.Errno { return inPlane(p) })
	if e != api.OK {
		return nil, e
	}
	if !field.Within(times, 0, maxTimes) {
		return nil, api.ErrRange
	}
	spots := make([]api.Spot, len(l))
	for i, p := range l {
		spots[i] = api.Spot{X: float32(p.X), Y: float32(p.Y)}
	}
	for range times {
		spots = cutCorners(spots)
	}
	return spots, api.OK
}

func cutCorners(spots []api.Spot) []api.Spot {
	if len(spots) == 1 {
		return spots
	}
	cut := []api.Spot{spots[0]}
	for i, b := range spots[1:] {
		a := spots[i]
		cut = append(cut, between(a, b, 0.25), between(a, b, 0.75))
	}
	return append(cut, spots[len(spots)-1])
}

func between(a, b api.Spot, share float32) api.Spot {
	return api.Spot{X: field.Mix(a.X, b.X, share), Y: field.Mix(a.Y, b.Y, share)}
}
