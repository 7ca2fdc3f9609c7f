package level_test

import (
	"math"
	"slices"

	"tarnfell/api"
)

func boundsOf(f api.Field) []api.Box {
	var l []api.Box
	for k := 0; ; k++ {
		var boxes []api.Box
		for _, p := range cells(f.Region) {
			x, y, v := (p.X-f.X)/(1<<k), (p.Y-f.Y)/(1<<k), valueOf(f, p)
			i := slices.IndexFunc(boxes, func(b api.Box) bool { return b.X == x && b.Y == y })
			if i < 0 {
				boxes = append(boxes, api.Box{Level: k, X: x, Y: y, Low: v, High: v})
				continue
			}
			boxes[i].Low, boxes[i].High = lesserOf(boxes[i].Low, v), greaterOf(boxes[i].High, v)
		}
		l = append(l, boxes...)
		if len(boxes) == 1 {
			return l
		}
	}
}

// within gives the times at which a ray is between two lines, and whether it ever is.
func within(from, ahead, most float32, first, behind int) (float32, float32, bool) {
	if ahead == 0 {
		return 0, most, from >= float32(first) && from < float32(behind)
	}
	a, b := over(minus(float32(first), from), ahead), over(minus(float32(behind), from), ahead)
	return lesserOf(a, b), greaterOf(a, b), true
}

// passes gives the times at which a ray is in a region, and whether it ever is.
func passes(r api.Ray, c api.Region) (in, out float32, there bool) {
	x1, x2, isX := within(r.X, r.DX, r.Most, c.X, c.X+c.W)
	y1, y2, isY := within(r.Y, r.DY, r.Most, c.Y, c.Y+c.H)
	in = greaterOf(greaterOf(x1, y1), 0)
	out = lesserOf(lesserOf(x2, y2), r.Most)
	return in, out, isX && isY && in <= out
}

func heightOf(r api.Ray, t float32) float32 { return plus(r.H, times(r.DH, t)) }

// struck gives the time at which a ray strikes a cell, and whether it does.
func struck(f api.Field, r api.Ray, p api.Point) (float32, bool) {
	in, out, there := passes(r, region(p.X, p.Y, 1, 1))
	v := valueOf(f, p)
	switch {
	case !there:
		return 0, false
	case heightOf(r, in) <= v:
		return in, true
	case heightOf(r, out) <= v:
		return lesserOf(greaterOf(over(minus(v, r.H), r.DH), in), out), true
	}
	return 0, false
}

func hitOf(f api.Field, r api.Ray) (api.Strike, bool) {
	var best api.Strike
	found := false
	for _, p := range cells(f.Region) {
		if t, is := struck(f, r, p); is && (!found || t < best.T) {
			best, found = api.Strike{Cell: p, T: t}, true
		}
	}
	return best, found
}

// lookedAt is at how many cells HitBounds looks: those of a box and of its parts, as a box says by its cells.
func lookedAt(f api.Field, r api.Ray) int {
	top := 0
	for 1<<top < max(f.W, f.H) {
		top++
	}
	many, least := 0, inf
	var look func(k, x, y int)
	look = func(k, x, y int) {
		x1, y1 := f.X+x<<k, f.Y+y<<k
		x2, y2 := min(x1+1<<k, f.X+f.W), min(y1+1<<k, f.Y+f.H)
		if x1 >= x2 || y1 >= y2 {
			return
		}
		box := region(x1, y1, x2-x1, y2-y1)
		high := float32(math.Inf(-1))
		for _, p := range cells(box) {
			high = max(high, valueOf(f, p))
		}
		in, out, there := passes(r, box)
		if !there || min(heightOf(r, in), heightOf(r, out)) > high || in > least {
			return
		}
		if k == 0 {
			many++
			if t, is := struck(f, r, at(x1, y1)); is {
				least = min(least, t)
			}
			return
		}
		for _, part := range [][2]int{{0, 0}, {1, 0}, {0, 1}, {1, 1}} {
			look(k-1, 2*x+part[0], 2*y+part[1])
		}
	}
	look(top, 0, 0)
	return many
}

func steps(a, b api.Point) int {
	return int(max(math.Abs(float64(b.X-a.X)), math.Abs(float64(b.Y-a.Y))))
}

func lineOf(a, b api.Point) []api.Point {
	n := steps(a, b)
	if n == 0 {
		return []api.Point{a}
	}
	var l []api.Point
	for i := 0; i <= n; i++ {
		l = append(l, at(a.X+quotient(2*i*(b.X-a.X)+n, 2*n), a.Y+quotient(2*i*(b.Y-a.Y)+n, 2*n)))
	}
	return l
}

func seenOf(f api.Field, a, b api.Point, eye float32) bool {
	p, q, l := plus(valueOf(f, a), eye), valueOf(f, b), lineOf(a, b)
	for i, c := range l {
		s := over(float32(i), float32(len(l)-1))
		if c != a && c != b && valueOf(f, c) > plus(p, times(minus(q, p), s)) {
			return false
		}
	}
	return true
}

func viewOf(f api.Field, a api.Point, eye float32, most int) []bool {
	var l []bool
	for _, b := range cells(f.Region) {
		l = append(l, steps(a, b) <= most && seenOf(f, a, b, eye))
	}
	return l
}

// horizonOf looks at all cells, and takes those that are in the direction.
func horizonOf(f api.Field, a api.Point, eye float32, dir int) (float32, bool) {
	ahead := [8]api.Point{at(1, 0), at(1, 1), at(0, 1), at(-1, 1), at(-1, 0), at(-1, -1), at(0, -1), at(1, -1)}[dir]
	length := [2]float32{1, root(2)}[dir%2]
	p, rises := plus(valueOf(f, a), eye), []float32{}
	for n := 1; n <= f.W+f.H; n++ {
		if c := at(a.X+n*ahead.X, a.Y+n*ahead.Y); covers(f.Region, c) {
			rises = append(rises, over(minus(valueOf(f, c), p), times(float32(n), length)))
		}
	}
	if len(rises) == 0 {
		return 0, false
	}
	most := rises[0]
	for _, v := range rises {
		most = greaterOf(most, v)
	}
	return most, true
}

// side is one between two cells: a, and the one to its right, or below.
type side struct {
	a     api.Point
	below bool
}

func (s side) b() api.Point {
	if s.below {
		return at(s.a.X, s.a.Y+1)
	}
	return at(s.a.X+1, s.a.Y)
}

// before reports whether a side comes ahead of another one.
func (s side) before(o side) bool {
	if s.a != o.a {
		return s.a.Y < o.a.Y || s.a.Y == o.a.Y && s.a.X < o.a.X
	}
	return !s.below && o.below
}

func (s side) compare(o side) int {
	switch {
	case s == o:
		return 0
	case s.before(o):
		return -1
	}
	return 1
}

func (s side) isCrossed(f api.Field, h float32) bool {
	return (valueOf(f, s.a) >= h) != (valueOf(f, s.b()) >= h)
}

func (s side) spot(f api.Field, h float32) api.Spot {
	va, vb := valueOf(f, s.a), valueOf(f, s.b())
	x, y, share := float32(s.a.X), float32(s.a.Y), over(minus(h, va), minus(vb, va))
	if s.below {
		return api.Spot{X: x, Y: plus(y, share)}
	}
	return api.Spot{X: plus(x, share), Y: y}
}

// pieces tells for each crossed side to which ones it is joined.
func pieces(f api.Field, h float32) map[side][]side {
	joined := map[side][]side{}
	for _, p := range cells(region(f.X, f.Y, f.W-1, f.H-1)) {
		top, left := side{p, false}, side{p, true}
		right, bottom := side{at(p.X+1, p.Y), true}, side{at(p.X, p.Y+1), false}
		corners := []struct {
			p    api.Point
			s, t side
		}{{p, top, left}, {at(p.X+1, p.Y), top, right}, {at(p.X, p.Y+1), left, bottom}, {at(p.X+1, p.Y+1), right, bottom}}
		var l []side
		for _, s := range []side{top, left, right, bottom} {
			if s.isCrossed(f, h) {
				l = append(l, s)
			}
		}
		if len(l) == 4 {
			m := quarter(valueOf(f, corners[0].p), valueOf(f, corners[1].p), valueOf(f, corners[2].p), valueOf(f, corners[3].p))
			l = nil
			for _, c := range corners {
				if high := valueOf(f, c.p) >= h; m >= h && !high || m < h && high {
					l = append(l, c.s, c.t)
				}
			}
		}
		for i := 0; i < len(l); i += 2 {
			joined[l[i]] = append(joined[l[i]], l[i+1])
			joined[l[i+1]] = append(joined[l[i+1]], l[i])
		}
	}
	return joined
}

// chain goes from a side to the next ones, the first one ahead, until it has been at all.
func chain(joined map[side][]side, from side, done map[side]bool) []side {
	l := []side{from}
	done[from] = true
	for {
		next := slices.Clone(joined[l[len(l)-1]])
		next = slices.DeleteFunc(next, func(s side) bool { return done[s] })
		if len(next) == 0 {
			return l
		}
		slices.SortFunc(next, side.compare)
		done[next[0]] = true
		l = append(l, next[0])
	}
}

// chainsOf are the sides of curves, in the order of curves.
func chainsOf(f api.Field, h float32) [][]side {
	joined, done := pieces(f, h), map[side]bool{}
	var all, ends []side
	for s, l := range joined {
		all = append(all, s)
		if len(l) == 1 {
			ends = append(ends, s)
		}
	}
	slices.SortFunc(all, side.compare)
	slices.SortFunc(ends, side.compare)
	var chains [][]side
	for _, s := range append(ends, all...) {
		if !done[s] {
			chains = append(chains, chain(joined, s, done))
		}
	}
	slices.SortFunc(chains, func(a, b []side) int { return a[0].compare(b[0]) })
	return chains
}

func contourOf(f api.Field, h float32) []api.Curve {
	joined := pieces(f, h)
	var l []api.Curve
	for _, sides := range chainsOf(f, h) {
		c := api.Curve{Closed: len(joined[sides[0]]) == 2}
		for _, s := range sides {
			c.Spots = append(c.Spots, s.spot(f, h))
		}
		l = append(l, c)
	}
	return l
}
