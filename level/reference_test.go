package level_test

import (
	"math"
	"slices"

	"tarnfell/api"
)

// These files have the document's rules, written down another time: slow, and with each operation rounded by way of a double, which never rounds twice.

func times(a, b float32) float32 { return float32(float64(a) * float64(b)) }
func plus(a, b float32) float32  { return float32(float64(a) + float64(b)) }
func minus(a, b float32) float32 { return float32(float64(a) - float64(b)) }
func over(a, b float32) float32  { return float32(float64(a) / float64(b)) }
func root(a float32) float32     { return float32(math.Sqrt(float64(a))) }
func size(a float32) float32     { return float32(math.Abs(float64(a))) }

func lesserOf(a, b float32) float32 {
	if b < a {
		return b
	}
	return a
}

func greaterOf(a, b float32) float32 {
	if b > a {
		return b
	}
	return a
}

// quotient rounds towards the lesser numbers.
func quotient(a, b int) int { return int(math.Floor(float64(a) / float64(b))) }

func quarter(a, b, c, d float32) float32 { return times(plus(plus(a, b), plus(c, d)), 0.25) }

// halves tells how often Down can halve a region, at most so often.
func halves(r api.Region, most int) int {
	n := 0
	for n < most && r.X%2 == 0 && r.Y%2 == 0 && r.W%2 == 0 && r.H%2 == 0 {
		r = region(r.X/2, r.Y/2, r.W/2, r.H/2)
		n++
	}
	return n
}

// levelOf is the level of a field that has a cell for 2^k * 2^k cells.
func levelOf(f api.Field, k int) api.Field {
	if k == 0 {
		return f
	}
	fine := levelOf(f, k-1)
	return eachCell(region(fine.X/2, fine.Y/2, fine.W/2, fine.H/2), func(p api.Point) float32 {
		part := func(i, j int) float32 { return valueOf(fine, at(2*p.X+i, 2*p.Y+j)) }
		return quarter(part(0, 0), part(1, 0), part(0, 1), part(1, 1))
	})
}

func lossOf(f api.Field, k int) float32 {
	coarse, most := levelOf(f, k), float32(0)
	for _, p := range cells(f.Region) {
		most = greaterOf(most, size(minus(valueOf(f, p), valueOf(coarse, at(quotient(p.X, 1<<k), quotient(p.Y, 1<<k))))))
	}
	return most
}

func lossesOf(f api.Field, many int) []float32 {
	var l []float32
	for k := range many {
		l = append(l, lossOf(f, k))
	}
	return l
}

// halfway is the middle of a triangle, and whether it is a cell.
func halfway(t api.Triangle) (api.Point, bool) {
	x, y := float64(t.A.X+t.B.X)/2, float64(t.A.Y+t.B.Y)/2
	return at(int(x), int(y)), x == math.Floor(x) && y == math.Floor(y)
}

func divided(t api.Triangle) (first, second api.Triangle) {
	m, _ := halfway(t)
	return api.Triangle{A: t.C, B: t.A, C: m}, api.Triangle{A: t.B, B: t.C, C: m}
}

func two(n int) []api.Triangle {
	return []api.Triangle{{A: at(0, 0), B: at(n, n), C: at(n, 0)}, {A: at(n, n), B: at(0, 0), C: at(0, n)}}
}

// under has a triangle and all into which it can be divided, the first part of each one and all of its parts ahead of the second one.
func under(t api.Triangle) []api.Triangle {
	l := []api.Triangle{t}
	if _, is := halfway(t); is {
		a, b := divided(t)
		l = append(append(l, under(a)...), under(b)...)
	}
	return l
}

func allTriangles(n int) []api.Triangle {
	var l []api.Triangle
	for _, t := range two(n) {
		l = append(l, under(t)...)
	}
	return l
}

// hung tells the error of each cell of a grid by asking for those of other cells first.
type hung struct {
	f     api.Field
	whose map[api.Point][]api.Triangle // the triangles with this middle
	known map[api.Point]float32
}

func hangs(f api.Field) *hung {
	h := &hung{f, map[api.Point][]api.Triangle{}, map[api.Point]float32{}}
	for _, t := range allTriangles(f.W - 1) {
		if m, is := halfway(t); is {
			h.whose[m] = append(h.whose[m], t)
		}
	}
	return h
}

// cell is the value in a column and a row.
func cell(f api.Field, p api.Point) float32 { return f.V[p.Y*f.W+p.X] }

func (h *hung) errorOf(p api.Point) float32 {
	if v, is := h.known[p]; is {
		return v
	}
	most := float32(0)
	for _, t := range h.whose[p] {
		most = greaterOf(most, size(minus(cell(h.f, p), times(plus(cell(h.f, t.A), cell(h.f, t.B)), 0.5))))
		a, b := divided(t)
		for _, part := range []api.Triangle{a, b} {
			if m, is := halfway(part); is {
				most = greaterOf(most, h.errorOf(m))
			}
		}
	}
	h.known[p] = most
	return most
}

func errorsOf(f api.Field) []float32 {
	h := hangs(f)
	return eachCell(region(0, 0, f.W, f.H), h.errorOf).V
}

func meshOf(f api.Field, most float32) []api.Triangle {
	errors := errorsOf(f)
	waiting := two(f.W - 1)
	slices.Reverse(waiting)
	var l []api.Triangle
	for len(waiting) > 0 {
		t := waiting[len(waiting)-1]
		waiting = waiting[:len(waiting)-1]
		if m, is := halfway(t); is && errors[m.Y*f.W+m.X] > most {
			a, b := divided(t)
			waiting = append(waiting, b, a)
		} else {
			l = append(l, t)
		}
	}
	return l
}

// crossed is the product of b - a and c - a.
func crossed(a, b, c api.Point) int { return (b.X-a.X)*(c.Y-a.Y) - (b.Y-a.Y)*(c.X-a.X) }

// liesIn reports whether a place is in a triangle: on no side it is away from the other two.
func liesIn(t api.Triangle, p api.Point) bool {
	some := [3]int{crossed(t.A, t.B, p), crossed(t.B, t.C, p), crossed(t.C, t.A, p)}
	return slices.Max(some[:]) <= 0 || slices.Min(some[:]) >= 0
}

func heightIn(f api.Field, l []api.Triangle, p api.Point) float32 {
	for _, t := range l {
		if liesIn(t, p) {
			d := float32(crossed(t.A, t.B, t.C))
			ofB, ofC := over(float32(crossed(t.A, p, t.C)), d), over(float32(crossed(t.A, t.B, p)), d)
			va, vb, vc := cell(f, t.A), cell(f, t.B), cell(f, t.C)
			return plus(va, plus(times(minus(vb, va), ofB), times(minus(vc, va), ofC)))
		}
	}
	return nan
}

// isInside reports whether a place is inside of the side from a to b.
func isInside(a, b, p api.Point) bool {
	return p != a && p != b && crossed(a, b, p) == 0 && min(a.X, b.X) <= p.X && p.X <= max(a.X, b.X) && min(a.Y, b.Y) <= p.Y && p.Y <= max(a.Y, b.Y)
}

func cracksOf(l []api.Triangle) int {
	n := 0
	for i, t := range l {
		for k, u := range l {
			for _, p := range []api.Point{t.A, t.B, t.C} {
				for _, s := range [][2]api.Point{{u.A, u.B}, {u.A, u.C}, {u.B, u.C}} {
					if i != k && isInside(s[0], s[1], p) {
						n++
					}
				}
			}
		}
	}
	return n
}

// tilesOf are the tiles of a region, of the tile that each cell is in.
func tilesOf(r api.Region, side int) []api.Region {
	var tiles []api.Region
	seen := map[api.Point]bool{}
	for _, p := range cells(r) {
		tile := at(quotient(p.X, side), quotient(p.Y, side))
		if seen[tile] {
			continue
		}
		seen[tile] = true
		x, y := max(r.X, tile.X*side), max(r.Y, tile.Y*side)
		tiles = append(tiles, region(x, y, min(r.X+r.W, (tile.X+1)*side)-x, min(r.Y+r.H, (tile.Y+1)*side)-y))
	}
	return tiles
}

func distanceOf(part api.Field, eye api.Eye) float32 {
	x := plus(float32(part.X), times(float32(part.W), 0.5))
	y := plus(float32(part.Y), times(float32(part.H), 0.5))
	h := times(plus(slices.Min(part.V), slices.Max(part.V)), 0.5)
	dx, dy, dh := minus(eye.X, x), minus(eye.Y, y), minus(eye.H, h)
	return root(plus(plus(times(dx, dx), times(dy, dy)), times(dh, dh)))
}

// ownLevel is the level of a tile ahead of levelling.
func ownLevel(part api.Field, eye api.Eye) int {
	most, last := times(distanceOf(part, eye), eye.Scale), 0
	for k, loss := range lossesOf(part, min(6, 1+halves(part.Region, 9))) {
		if loss <= most {
			last = k
		}
	}
	return last
}

// beside reports whether two regions touch with a side.
func beside(a, b api.Region) bool {
	if a.X+a.W == b.X || b.X+b.W == a.X {
		return a.Y < b.Y+b.H && b.Y < a.Y+a.H
	}
	return (a.Y+a.H == b.Y || b.Y+b.H == a.Y) && a.X < b.X+b.W && b.X < a.X+a.W
}

func patchesOf(f api.Field, side int, eye api.Eye) []api.Patch {
	var l []api.Patch
	for _, r := range tilesOf(f.Region, side) {
		part := eachCell(r, func(p api.Point) float32 { return valueOf(f, p) })
		l = append(l, api.Patch{Region: r, Level: ownLevel(part, eye)})
	}
	for {
		lowered := false
		for i := range l {
			for _, b := range l {
				if beside(l[i].Region, b.Region) && l[i].Level > b.Level+1 {
					l[i].Level = b.Level + 1
					lowered = true
				}
			}
		}
		if !lowered {
			return l
		}
	}
}
