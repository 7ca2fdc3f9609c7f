package level

import (
	"slices"

	"tarnfell/api"
	"tarnfell/field"
	"tarnfell/water"
)

const maxTime = 65536

// boxesAlong gives how many boxes of a level lie along so many cells.
func boxesAlong(cells, level int) int { return (cells + 1<<level - 1) >> level }

// cellsOf gives the cells of a box of a level; at the edges there are fewer.
func cellsOf(r api.Region, level, x, y int) api.Region {
	whole := api.Region{X: r.X + x<<level, Y: r.Y + y<<level, W: 1 << level, H: 1 << level}
	cells, _ := field.Common(r, whole)
	return cells
}

// Bounds is described in doc/09-level.md, P212.
func Bounds(f api.Field) ([]api.Box, api.Errno) {
	if e := field.Check(f); e != api.OK {
		return nil, e
	}
	return boundsOf(f), api.OK
}

func boundsOf(f api.Field) []api.Box {
	l := make([]api.Box, 0, 2*len(f.V))
	for level := 0; ; level++ {
		wide, high := boxesAlong(f.W, level), boxesAlong(f.H, level)
		for i := range wide * high {
			l = append(l, boxOf(f, level, i%wide, i/wide))
		}
		if wide*high == 1 {
			return l
		}
	}
}

// boxOf looks at all cells, as the bounds of smaller boxes do not tell which of two zeros is the first one row by row.
func boxOf(f api.Field, level, x, y int) api.Box {
	cells := cellsOf(f.Region, level, x, y)
	first := field.Index(f.Region, cells.X, cells.Y)
	low, high := f.V[first], f.V[first]
	for row := range cells.H {
		for _, v := range f.V[first+row*f.W:][:cells.W] {
			low, high = field.Lesser(low, v), field.Greater(high, v)
		}
	}
	return api.Box{Level: level, X: x, Y: y, Low: low, High: high}
}

// CheckRay is described in doc/09-level.md, P213. It need not ask for places beyond MaxPlace, as heights are none.
func CheckRay(r api.Ray) api.Errno {
	if e := field.CheckHeights(r.X, r.Y, r.H, r.DX, r.DY, r.DH, r.Most); e != api.OK {
		return e
	}
	if r.DX == 0 && r.DY == 0 {
		return api.ErrConflict
	}
	return field.CheckWithin(r.Most, 0, maxTime)
}

// stay is the times at which a ray comes into a rectangle of cells, and goes out of it.
type stay struct{ in, out float32 }

// along gives the stay of a ray between two lines across an axis, and whether there is one.
func along(from, ahead, most float32, first, behind int) (stay, bool) {
	near, far := float32(first), float32(behind)
	if ahead == 0 {
		return stay{0, most}, near <= from && from < far
	}
	a, b := (near-from)/ahead, (far-from)/ahead
	return stay{field.Lesser(a, b), field.Greater(a, b)}, true
}

// stayIn gives the stay of a ray in a rectangle of cells, and whether there is one.
func stayIn(r api.Ray, cells api.Region) (stay, bool) {
	x, isX := along(r.X, r.DX, r.Most, cells.X, cells.X+cells.W)
	y, isY := along(r.Y, r.DY, r.Most, cells.Y, cells.Y+cells.H)
	s := stay{
		in:  field.Greater(field.Greater(x.in, y.in), 0),
		out: field.Lesser(field.Lesser(x.out, y.out), r.Most),
	}
	return s, isX && isY && s.in <= s.out
}

// heightAt is that of a ray at a time. It need be no height of G7.
func heightAt(r api.Ray, time float32) float32 { return r.H + float32(r.DH*time) }

// strike gives the time at which a ray strikes a cell of the height v, and whether it does.
func (s stay) strike(r api.Ray, v float32) (float32, bool) {
	if heightAt(r, s.in) <= v {
		return s.in, true
	}
	if heightAt(r, s.out) <= v {
		time := (v - r.H) / r.DH
		return field.Lesser(field.Greater(time, s.in), s.out), true
	}
	return 0, false
}

// search is that for the first strike of a ray. It is told of each cell that the ray may strike, in any order.
type search struct {
	f      api.Field
	ray    api.Ray
	best   api.Strike
	number int // of the cell of the best strike; none, if there is none so far
	looked int // at how many cells
}

func searchOf(f api.Field, r api.Ray) (*search, api.Errno) {
	if e := field.Check(f); e != api.OK {
		return nil, e
	}
	if e := CheckRay(r); e != api.OK {
		return nil, e
	}
	return &search{f: f, ray: r, number: none}, api.OK
}

func (s *search) found() bool { return s.number != none }

func (s *search) try(i int, in stay) {
	time, strikes := in.strike(s.ray, s.f.V[i])
	if !strikes {
		return
	}
	if !s.found() || time < s.best.T || time == s.best.T && i < s.number {
		s.best, s.number = api.Strike{Cell: water.Place(s.f.Region, i), T: time}, i
	}
}

// Hit is described in doc/09-level.md, P213.
func Hit(f api.Field, r api.Ray) (api.Strike, bool, api.Errno) {
	s, e := searchOf(f, r)
	if e != api.OK {
		return api.Strike{}, false, e
	}
	for i := range f.V {
		p := water.Place(f.Region, i)
		if in, there := stayIn(r, api.Region{X: p.X, Y: p.Y, W: 1, H: 1}); there {
			s.try(i, in)
		}
	}
	return s.best, s.found(), api.OK
}

// HitBounds is described in doc/09-level.md, P213.
func HitBounds(f api.Field, b []api.Box, r api.Ray) (api.Strike, bool, int, api.Errno) {
	s, e := searchOf(f, r)
	if e != api.OK {
		return api.Strike{}, false, 0, e
	}
	if !slices.Equal(b, boundsOf(f)) {
		return api.Strike{}, false, 0, api.ErrForm
	}
	s.look(b, b[len(b)-1])
	return s.best, s.found(), s.looked, api.OK
}

// Hits is no part of doc/09-level.md: package export needs it. It gives what Hit gives for each of several rays, of which the first bad one decides, and makes the boxes of the field only once.
func Hits(f api.Field, rays []api.Ray) ([]api.Strike, []bool, api.Errno) {
	if e := field.Check(f); e != api.OK {
		return nil, nil, e
	}
	for _, r := range rays {
		if e := CheckRay(r); e != api.OK {
			return nil, nil, e
		}
	}
	strikes, struck := make([]api.Strike, len(rays)), make([]bool, len(rays))
	b := boundsOf(f)
	for i, r := range rays {
		s := search{f: f, ray: r, number: none}
		s.look(b, b[len(b)-1])
		strikes[i], struck[i] = s.best, s.found()
	}
	return strikes, struck, api.OK
}

// look goes through a box of the list b and its parts.
func (s *search) look(b []api.Box, box api.Box) {
	in, there := stayIn(s.ray, cellsOf(s.f.Region, box.Level, box.X, box.Y))
	if !there || s.found() && in.in > s.best.T {
		return
	}
	if field.Lesser(heightAt(s.ray, in.in), heightAt(s.ray, in.out)) > box.High {
		return
	}
	if box.Level == 0 {
		s.looked++
		s.try(box.Y*s.f.W+box.X, in)
		return
	}
	s.eachPart(b, box, func(part api.Box) { s.look(b, part) })
}

// eachPart visits the boxes of the level below that lie in a box, row by row.
func (s *search) eachPart(b []api.Box, box api.Box, visit func(part api.Box)) {
	first := 0 // the number of the first box of the level below
	for level := range box.Level - 1 {
		first += boxesAlong(s.f.W, level) * boxesAlong(s.f.H, level)
	}
	wide, high := boxesAlong(s.f.W, box.Level-1), boxesAlong(s.f.H, box.Level-1)
	for y := 2 * box.Y; y < min(2*box.Y+2, high); y++ {
		for x := 2 * box.X; x < min(2*box.X+2, wide); x++ {
			visit(b[first+y*wide+x])
		}
	}
}
