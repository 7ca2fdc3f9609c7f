package road

import (
	"slices"

	"tarnfell/api"
	"tarnfell/field"
	"tarnfell/noise"
)

const (
	maxBedGrade = 1024
	maxWide     = 20
	maxSoft     = 20
)

// Bed is described in doc/05-road.md, P105.
func Bed(f api.Field, way []api.Point, how int, grade float32) ([]float32, api.Errno) {
	steps, e := stepsIn(f, way)
	if e != api.OK {
		return nil, e
	}
	if !field.Within(how, api.BedFill, api.BedMean) {
		return nil, api.ErrKind
	}
	if e := field.CheckWithin(grade, 0, maxBedGrade); e != api.OK {
		return nil, e
	}
	// No bed leaves the heights: it lies between the least and the greatest one of the way.
	heights := heightsOf(f, way)
	drops := make([]float32, len(steps))
	for i, s := range steps {
		drops[i] = float32(grade * s.length())
	}
	switch how {
	case api.BedFill:
		return filledBed(heights, drops), api.OK
	case api.BedCut:
		return cutBed(heights, drops), api.OK
	}
	bed := filledBed(heights, drops)
	for i, v := range cutBed(heights, drops) {
		bed[i] = float32((v + bed[i]) * 0.5)
	}
	return bed, api.OK
}

func filledBed(heights, drops []float32) []float32 {
	return level(heights, drops, func(v, beside, drop float32) float32 { return field.Greater(v, beside-drop) })
}

func cutBed(heights, drops []float32) []float32 {
	return level(heights, drops, func(v, beside, drop float32) float32 { return field.Lesser(v, beside+drop) })
}

// level makes a bed of heights, with what fit says of each one, the one beside it, and the drop that is permitted between both: first along the way, then back.
func level(heights, drops []float32, fit func(v, beside, drop float32) float32) []float32 {
	bed := slices.Clone(heights)
	for i, drop := range drops {
		bed[i+1] = fit(bed[i+1], bed[i], drop)
	}
	for i, drop := range slices.Backward(drops) {
		bed[i] = fit(bed[i], bed[i+1], drop)
	}
	return bed
}

// Build is described in doc/05-road.md, P106.
func Build(f api.Field, way []api.Point, bed []float32, wide, soft int) (api.Field, api.Errno) {
	if _, e := stepsIn(f, way); e != api.OK {
		return api.Field{}, e
	}
	if len(bed) != len(way) {
		return api.Field{}, api.ErrForm
	}
	if e := field.CheckHeights(bed...); e != api.OK {
		return api.Field{}, e
	}
	if !field.Within(wide, 0, maxWide) || !field.Within(soft, 1, maxSoft) {
		return api.Field{}, api.ErrRange
	}
	near := nearestOf(f.Region, way)
	return field.Make(f.Region, func(x, y int) float32 {
		i := field.Index(f.Region, x, y)
		n := near[i]
		return slope(f.V[i], bed[n.place], n.square, wide, soft)
	})
}

// slope is the height of a cell of the height v, whose distance to the way has the square; b is the bed there.
func slope(v, b float32, square, wide, soft int) float32 {
	if square <= wide*wide {
		return b
	}
	s := (field.Root(float32(square)) - float32(wide)) / float32(soft)
	if s >= 1 {
		return v
	}
	share, _ := noise.Ease(s)
	return field.Mix(b, v, share)
}

// nearest is the number of the place of a way that is the nearest one to a cell, or none, and the square of their distance.
type nearest struct{ square, place int }

func (n nearest) less(m nearest) bool {
	if n.square != m.square {
		return n.square < m.square
	}
	return n.place < m.place
}

// nearestOf looks along all rows, then along all columns: of the cells of a row only the nearest one to a column can be the nearest one to a cell of that column.
func nearestOf(r api.Region, way []api.Point) []nearest {
	near := slices.Repeat([]nearest{{place: none}}, r.W*r.H)
	for i, p := range slices.Backward(way) {
		near[field.Index(r, p.X, p.Y)].place = i
	}
	for y := range r.H {
		lookAlong(near, y*r.W, 1, r.W)
	}
	for x := range r.W {
		lookAlong(near, x, r.W, r.H)
	}
	return near
}

// lookAlong gives each cell of a line, with many ones from the first one on, the nearest place that those of the line have.
func lookAlong(near []nearest, first, apart, many int) {
	line := make([]nearest, many)
	for i := range line {
		line[i] = near[first+i*apart]
	}
	for i := range line {
		best := nearest{place: none}
		for k, n := range line {
			if n.place == none {
				continue
			}
			n.square += (i - k) * (i - k)
			if best.place == none || n.less(best) {
				best = n
			}
		}
		near[first+i*apart] = best
	}
}

// Earth is described in doc/05-road.md, P106.
func Earth(f, g api.Field) (cut, filled float32, e api.Errno) {
	if e := field.Check(f); e != api.OK {
		return 0, 0, e
	}
	if e := field.Check(g); e != api.OK {
		return 0, 0, e
	}
	if f.Region != g.Region {
		return 0, 0, api.ErrPlace
	}
	for i, v := range f.V {
		switch w := g.V[i]; {
		case w < v:
			cut += v - w
		case w > v:
			filled += w - v
		}
	}
	return cut, filled, api.OK
}
