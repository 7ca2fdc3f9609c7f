package level_test

import (
	"math"
	"slices"
	"testing"

	"tarnfell/api"
	"tarnfell/level"
)

// grids has fields that are grids, up to the given k, with values of all sizes.
func (n *numbers) grids(most int) []api.Field {
	var l []api.Field
	for k := 1; k <= most; k++ {
		side := 1<<k + 1
		l = append(l, n.fields(region(n.between(-50, 50), n.between(-50, 50), side, side), top/2)...)
	}
	return l
}

// levelsOf are what may be permitted of a grid: nothing, some of its errors, what is a bit less or more than these, and much.
func (n *numbers) levelsOf(errors []float32) []float32 {
	l := []float32{0, minusZero, tiny, 1, top}
	for range 4 {
		v := errors[n.between(0, len(errors)-1)]
		l = append(l, v, after(v), max(0, before(v)))
	}
	return l
}

// P207: CheckGrid takes just the seven sides.
func TestCheckGrid(t *testing.T) {
	sides := map[int]int{3: 1, 5: 2, 9: 3, 17: 4, 33: 5, 65: 6, 129: 7}
	for w := 1; w <= 256; w++ {
		k, e := level.CheckGrid(flat(region(7, -9, w, w), 1))
		if want := sides[w]; want == 0 {
			wantNothing(t, "CheckGrid", k != 0, e, api.ErrForm)
		} else if k != want || e != api.OK {
			t.Error("CheckGrid", w, k, e)
		}
		if w != 5 {
			k, e = level.CheckGrid(flat(region(0, 0, w, 5), 1))
			wantNothing(t, "CheckGrid", k != 0, e, api.ErrForm)
			k, e = level.CheckGrid(flat(region(0, 0, 5, w), 1))
			wantNothing(t, "CheckGrid", k != 0, e, api.ErrForm)
		}
	}
	k, e := level.CheckGrid(flat(region(0, 0, 257, 127), 1))
	wantNothing(t, "CheckGrid", k != 0, e, api.ErrForm)
	k, e = level.CheckGrid(flat(region(0, 0, 4, 4), nan))
	wantNothing(t, "CheckGrid", k != 0, e, api.ErrForm)
	k, e = level.CheckGrid(flat(region(0, 0, 4, 4), beyond))
	wantNothing(t, "CheckGrid", k != 0, e, api.ErrRange)
	k, e = level.CheckGrid(flat(region(0, 0, 257, 257), beyond))
	wantNothing(t, "CheckGrid", k != 0, e, api.ErrLarge)
}

// P207 to P210: grids alone have errors, meshes and heights; this is asked ahead of what else is wrong.
func TestNoGrid(t *testing.T) {
	for _, f := range []api.Field{flat(region(0, 0, 4, 4), 1), flat(region(0, 0, 3, 5), 1), flat(region(0, 0, 2, 2), 1), row(1)} {
		l, e := level.Errors(f)
		wantNothing(t, "Errors", len(l) > 0, e, api.ErrForm)
		for _, most := range []float32{0, -1, beyond, nan} {
			m, e := level.Mesh(f, most)
			wantNothing(t, "Mesh", len(m) > 0, e, api.ErrForm)
			v, e := level.MeshAt(f, most, -1, 7)
			wantNothing(t, "MeshAt", v != 0, e, api.ErrForm)
		}
	}
}

// P208, G6: Errors of grids of all sizes.
func TestErrors(t *testing.T) {
	n := &numbers{state: 10}
	for _, f := range n.grids(5) {
		l, e := level.Errors(f)
		wantSingles(t, "Errors", l, e, errorsOf(f)...)
	}
	f := n.field(region(0, 0, 129, 129), n.single)
	l, e := level.Errors(f)
	wantSingles(t, "Errors", l, e, errorsOf(f)...)
}

// P208: known errors: a cell has its own one, and the greatest one of the cells that hang on it.
func TestKnownErrors(t *testing.T) {
	l, e := level.Errors(of(4, 5, 3, 3, 1, 2, 4, 3, 5, 6, 7, 8, 2))
	// The cell in the middle hangs between the corners 1 and 2, those of the sides between two corners.
	wantSingles(t, "Errors", l, e, 0, 0.5, 0, 1, 3.5, 3, 0, 3.5, 0)
	// Where only a cell beside is wrong, the middle is so as well.
	l, e = level.Errors(of(0, 0, 3, 3, 0, 0, 0, 0, 0, 7, 0, 0, 0))
	wantSingles(t, "Errors", l, e, 0, 0, 0, 0, 7, 7, 0, 0, 0)
	one := flat(region(0, 0, 5, 5), 0)
	one.V[1*5+1] = -4
	l, e = level.Errors(one)
	wantSingles(t, "Errors", l, e,
		0, 0, 4, 0, 0,
		0, 4, 0, 0, 0,
		4, 0, 4, 0, 0,
		0, 0, 0, 0, 0,
		0, 0, 0, 0, 0)
	one = flat(region(0, 0, 5, 5), 0)
	one.V[1*5+2] = 3
	l, e = level.Errors(one)
	wantSingles(t, "Errors", l, e,
		0, 0, 3, 0, 0,
		0, 3, 3, 3, 0,
		3, 0, 3, 0, 3,
		0, 0, 0, 0, 0,
		0, 0, 0, 0, 0)
	l, e = level.Errors(flat(region(0, 0, 9, 9), minusZero))
	wantSingles(t, "Errors", l, e, make([]float32, 81)...)
}

// P208, G7: errors that are no heights are ErrRange; those of a mesh need not be told.
func TestErrorsBeyondHeights(t *testing.T) {
	f := of(0, 0, 3, 3, -top, 0, 0, 0, 0, 0, 0, 0, -top)
	l, e := level.Errors(f)
	wantSingles(t, "Errors", l, e, 0, top/2, 0, top/2, top, top/2, 0, top/2, 0)
	f.V[4] = 0.125
	l, e = level.Errors(f)
	wantNothing(t, "Errors", len(l) > 0, e, api.ErrRange)
	m, e := level.Mesh(f, top)
	wantList(t, "Mesh", m, e, meshOf(f, top)...)
	if len(m) != 4 {
		t.Error("Mesh of errors beyond heights has", len(m))
	}
	f.V[4] = top
	v, e := level.MeshAt(f, top, 1, 1)
	wantSingle(t, "MeshAt", v, e, top)
}

// P209: Mesh divides where errors are greater than what is permitted, depth first.
func TestMesh(t *testing.T) {
	n := &numbers{state: 11}
	for _, f := range n.grids(5) {
		for _, most := range n.levelsOf(errorsOf(f)) {
			l, e := level.Mesh(f, most)
			wantList(t, "Mesh", l, e, meshOf(f, most)...)
		}
	}
}

// P209: known meshes, and how many triangles meshes have.
func TestKnownMeshes(t *testing.T) {
	f := of(9, 9, 3, 3, 0, 0, 0, 0, 4, 0, 0, 0, 0)
	l, e := level.Mesh(f, 4)
	wantList(t, "Mesh", l, e, two(2)...)
	l, e = level.Mesh(f, before(4))
	wantList(t, "Mesh", l, e,
		api.Triangle{A: at(2, 0), B: at(0, 0), C: at(1, 1)}, api.Triangle{A: at(2, 2), B: at(2, 0), C: at(1, 1)},
		api.Triangle{A: at(0, 2), B: at(2, 2), C: at(1, 1)}, api.Triangle{A: at(0, 0), B: at(0, 2), C: at(1, 1)})
	f.V[5] = 1
	l, e = level.Mesh(f, 0)
	wantList(t, "Mesh", l, e,
		api.Triangle{A: at(2, 0), B: at(0, 0), C: at(1, 1)},
		api.Triangle{A: at(1, 1), B: at(2, 2), C: at(2, 1)}, api.Triangle{A: at(2, 0), B: at(1, 1), C: at(2, 1)},
		api.Triangle{A: at(0, 2), B: at(2, 2), C: at(1, 1)}, api.Triangle{A: at(0, 0), B: at(0, 2), C: at(1, 1)})
	n := &numbers{state: 12}
	for k := 1; k <= 7; k++ {
		side := 1<<k + 1
		l, e = level.Mesh(n.field(region(0, 0, side, side), n.single), 0)
		if e != api.OK || len(l) != 2<<(2*k) {
			t.Error("Mesh of all cells", k, len(l), e)
		}
		l, e = level.Mesh(n.field(region(0, 0, side, side), n.single), 2)
		wantList(t, "Mesh", l, e, two(1<<k)...)
		l, e = level.Mesh(flat(region(0, 0, side, side), 7), 0)
		wantList(t, "Mesh", l, e, two(1<<k)...)
	}
}

// P209: the errors of Mesh and MeshAt, and their order.
func TestMeshErrors(t *testing.T) {
	f := flat(region(0, 0, 5, 5), 1)
	for _, s := range badSingles(0, top) {
		l, e := level.Mesh(f, s.v)
		wantNothing(t, "Mesh", len(l) > 0, e, s.want)
		v, e := level.MeshAt(f, s.v, -1, 9)
		wantNothing(t, "MeshAt", v != 0, e, s.want)
	}
	f = flat(region(100, -100, 5, 5), 1)
	for _, p := range placesOutside(region(0, 0, 5, 5)) {
		v, e := level.MeshAt(f, 0, p.X, p.Y)
		wantNothing(t, "MeshAt", v != 0, e, api.ErrPlace)
	}
	for _, p := range cells(region(0, 0, 5, 5)) {
		v, e := level.MeshAt(f, top, p.X, p.Y)
		wantSingle(t, "MeshAt", v, e, 1)
	}
}

// P209, G6: MeshAt at all cells of small grids, and at some of larger ones.
func TestMeshAt(t *testing.T) {
	n := &numbers{state: 13}
	for _, f := range n.grids(3) {
		for _, most := range n.levelsOf(errorsOf(f))[2:9] {
			l := meshOf(f, most)
			for _, p := range cells(region(0, 0, f.W, f.H)) {
				v, e := level.MeshAt(f, most, p.X, p.Y)
				wantSingle(t, "MeshAt", v, e, heightIn(f, l, p))
			}
		}
	}
	for _, side := range []int{17, 65, 129} {
		for _, most := range []float32{0, 0.3, 0.8} {
			f := n.field(region(0, 0, side, side), func() float32 { v := n.single(); return v * v * v })
			l := meshOf(f, most)
			for range 50 {
				p := n.pointIn(region(0, 0, side, side))
				v, e := level.MeshAt(f, most, p.X, p.Y)
				wantSingle(t, "MeshAt", v, e, heightIn(f, l, p))
			}
		}
	}
}

// P209: known heights of meshes: of the first triangle, also on its sides.
func TestKnownMeshAt(t *testing.T) {
	f := of(0, 0, 5, 5,
		0, 9, 9, 9, 4,
		9, 9, 9, 9, 9,
		9, 9, 9, 9, 9,
		9, 9, 9, 9, 9,
		8, 9, 9, 9, 16)
	for _, s := range []struct {
		x, y int
		want float32
	}{{0, 0, 0}, {4, 0, 4}, {0, 4, 8}, {4, 4, 16}, {2, 0, 2}, {1, 0, 1}, {4, 2, 10}, {2, 2, 8}, {3, 3, 12}, {3, 1, 6}, {0, 1, 2}, {1, 3, 8}, {3, 4, 14}, {2, 1, 5}} {
		v, e := level.MeshAt(f, 20, s.x, s.y)
		wantSingle(t, "MeshAt", v, e, s.want)
		v, e = level.MeshAt(f, 0, s.x, s.y)
		wantSingle(t, "MeshAt", v, e, f.V[5*s.y+s.x])
	}
	// On the side that both have in common the first one decides: from the other corner the sum would be another one.
	f = flat(region(0, 0, 3, 3), 0)
	f.V[0], f.V[8] = 1, 0x3p-25
	first, second := plus(1, times(minus(0x3p-25, 1), 0.5)), plus(0x3p-25, times(minus(1, 0x3p-25), 0.5))
	v, e := level.MeshAt(f, top, 1, 1)
	wantSingle(t, "MeshAt", v, e, first)
	if first == second {
		t.Error("both triangles have", first)
	}
}

// P209, G7: a height that is rounded to none is ErrRange.
func TestMeshAtBeyondHeights(t *testing.T) {
	n := &numbers{state: 14}
	heights, none := 0, 0
	for range 3000 {
		f := flat(region(0, 0, 9, 9), 0)
		for _, i := range []int{0, 8, 72, 80} {
			f.V[i] = top
		}
		f.V[[4]int{0, 8, 72, 80}[n.between(0, 3)]] = n.single() * 100
		for _, p := range []api.Point{at(8, n.between(0, 8)), at(n.between(0, 8), 8), at(0, n.between(0, 8)), at(n.between(0, 8), 0)} {
			want := heightIn(f, two(8), p)
			v, e := level.MeshAt(f, top, p.X, p.Y)
			if size(want) > top {
				none++
				wantNothing(t, "MeshAt", v != 0, e, api.ErrRange)
			} else {
				heights++
				wantSingle(t, "MeshAt", v, e, want)
			}
		}
	}
	if heights == 0 || none == 0 {
		t.Error("MeshAt: of one kind there is none", heights, none)
	}
}

// P209, P286: meshes have no cracks, and differ from the ground by no more than is told.
func TestMeshesHold(t *testing.T) {
	n := &numbers{state: 15}
	for _, f := range n.grids(4) {
		k, _ := level.CheckGrid(f)
		errors := errorsOf(f)
		greatest := 0.0
		for _, v := range f.V {
			greatest = max(greatest, math.Abs(float64(v)))
		}
		for _, most := range []float32{0, tiny, slices.Max(errors) / 2, errors[n.between(0, len(errors)-1)], errors[n.between(0, len(errors)-1)]} {
			l, e := level.Mesh(f, most)
			wantError(t, "Mesh", e, api.OK)
			cracks, e := level.Cracks(f.W, l)
			if cracks != 0 || e != api.OK || cracksOf(l) != 0 {
				t.Error("cracks", cracks, e)
			}
			bound := 2*float64(k)*float64(most) + 0x1p-17*greatest + 0x1p-140
			for range 60 {
				wantNear(t, f, most, n.pointIn(region(0, 0, f.W, f.H)), bound)
			}
		}
	}
}

func wantNear(t *testing.T, f api.Field, most float32, p api.Point, bound float64) {
	t.Helper()
	v, e := level.MeshAt(f, most, p.X, p.Y)
	if d := math.Abs(float64(v) - float64(cell(f, p))); e != api.OK || d > bound {
		t.Errorf("MeshAt of %d columns with %v at %v: %v, error %d; it differs by %v", f.W, most, p, v, e, d)
	}
}

// P209, P286: the greatest meshes have no cracks and are near to the ground, however much is permitted.
func TestGreatestMeshes(t *testing.T) {
	n := &numbers{state: 16}
	f := n.field(region(0, 0, 129, 129), func() float32 { v := n.single(); return v * v * v * v * v })
	last := math.MaxInt
	for _, most := range []float32{0, 0.1, 0.5, 0.9, 1, 1.5, 2} {
		l, e := level.Mesh(f, most)
		wantError(t, "Mesh", e, api.OK)
		if len(l) > last {
			t.Error("Mesh has more triangles where more is permitted", len(l), last)
		}
		last = len(l)
		cracks, e := level.Cracks(129, l)
		if cracks != 0 || e != api.OK {
			t.Error("Cracks", cracks, e)
		}
		for range 20 {
			wantNear(t, f, most, n.pointIn(f.Region), 14*float64(most)+0x1p-17)
		}
	}
	if last != 2 {
		t.Error("Mesh", last)
	}
}

// P210: Cracks of any triangles.
func TestCracks(t *testing.T) {
	n := &numbers{state: 17}
	for k := 1; k <= 4; k++ {
		all := allTriangles(1 << k)
		for range 60 {
			var l []api.Triangle
			for range n.between(0, 30) {
				l = append(l, all[n.between(0, len(all)-1)])
			}
			cracks, e := level.Cracks(1<<k+1, l)
			if want := cracksOf(l); cracks != want || e != api.OK {
				t.Errorf("Cracks of %v: %d, error %d; want %d", l, cracks, e, want)
			}
		}
		if k < 4 {
			cracks, e := level.Cracks(1<<k+1, all)
			if want := cracksOf(all); cracks != want || e != api.OK {
				t.Errorf("Cracks of all: %d, error %d; want %d", cracks, e, want)
			}
		}
	}
}

// P210: known cracks: each pair of a corner and a side of another triangle counts.
func TestKnownCracks(t *testing.T) {
	large := two(4)[1]
	a, b := divided(two(4)[0])
	a1, a2 := divided(a)
	for _, s := range []struct {
		l    []api.Triangle
		want int
	}{
		{nil, 0}, {two(4), 0}, {[]api.Triangle{large, large, large}, 0}, {[]api.Triangle{a, b}, 0},
		// The corner in the middle is one of both parts.
		{[]api.Triangle{large, a}, 1}, {[]api.Triangle{large, a, b}, 2}, {[]api.Triangle{a, b, large}, 2}, {[]api.Triangle{large, large, a, b}, 4}, {[]api.Triangle{large, a, a, a}, 3},
		// Corners at the same place as those of the side are not inside of it, nor are those inside of the triangle.
		{[]api.Triangle{large, a1, a2}, 2}, {[]api.Triangle{two(4)[0], a1, a2}, 4}, {[]api.Triangle{b, a1, a2}, 0}, {[]api.Triangle{a, a1}, 1},
	} {
		cracks, e := level.Cracks(5, s.l)
		if cracks != s.want || e != api.OK {
			t.Errorf("Cracks of %v: %d, error %d; want %d", s.l, cracks, e, s.want)
		}
	}
	// The side from the corner C has cracks as well; three cells are inside of it.
	all, many := allTriangles(8), 0
	for _, u := range all {
		for _, p := range []api.Point{u.A, u.B, u.C} {
			if p.Y == 0 && p.X > 0 && p.X < 8 || p.X == 8 && p.Y > 0 && p.Y < 8 || p.X == p.Y && p.X > 0 && p.X < 8 {
				many++
			}
		}
	}
	cracks, e := level.Cracks(9, append(all, two(8)[0]))
	without, _ := level.Cracks(9, all)
	if cracks-without != many || e != api.OK {
		t.Error("Cracks", cracks, without, many, e)
	}
}

// P210: the errors of Cracks; each triangle is asked for all of them.
func TestCracksErrors(t *testing.T) {
	good := two(4)[0]
	bad := []struct {
		u    api.Triangle
		want api.Errno
	}{
		{api.Triangle{}, api.ErrForm}, {api.Triangle{A: at(0, 2), B: at(2, 0), C: at(2, 2)}, api.ErrForm}, {two(8)[0], api.ErrPlace},
		{api.Triangle{A: good.B, B: good.A, C: good.C}, api.ErrForm}, {api.Triangle{A: good.B, B: good.C, C: good.A}, api.ErrForm},
		{api.Triangle{A: at(1, 0), B: at(3, 2), C: at(3, 0)}, api.ErrForm}, {api.Triangle{A: at(0, 0), B: at(1, 1), C: at(0, 1)}, api.ErrForm},
		{api.Triangle{A: at(-1, 0), B: good.B, C: good.C}, api.ErrPlace}, {api.Triangle{A: good.A, B: at(4, 5), C: good.C}, api.ErrPlace},
		{api.Triangle{A: good.A, B: good.B, C: at(5, 0)}, api.ErrPlace}, {api.Triangle{A: good.A, B: good.B, C: at(0, -1)}, api.ErrPlace},
	}
	for _, n := range outside(0, 4) {
		for _, u := range []api.Triangle{{A: at(n, 0)}, {A: at(0, n)}, {B: at(n, 0)}, {B: at(0, n)}, {C: at(n, 0)}, {C: at(0, n)}} {
			bad = append(bad, struct {
				u    api.Triangle
				want api.Errno
			}{u, api.ErrPlace})
		}
	}
	for _, s := range bad {
		for _, l := range [][]api.Triangle{{s.u}, {good, s.u}, {s.u, {A: at(9, 9)}}, {s.u, {}}, {good, s.u, {A: at(9, 9)}}} {
			n, e := level.Cracks(5, l)
			wantNothing(t, "Cracks", n != 0, e, s.want)
		}
	}
	for _, side := range append(outside(3, 129), 0, 1, 2, 4, 6, 8, 16, 64, 128, 130, 257) {
		n, e := level.Cracks(side, make([]api.Triangle, api.MaxTriangles+1))
		wantNothing(t, "Cracks", n != 0, e, api.ErrRange)
		n, e = level.Cracks(side, nil)
		wantNothing(t, "Cracks", n != 0, e, api.ErrRange)
	}
	n, e := level.Cracks(5, make([]api.Triangle, api.MaxTriangles+1))
	wantNothing(t, "Cracks", n != 0, e, api.ErrLarge)
	n, e = level.Cracks(3, slices.Repeat(two(2), api.MaxTriangles/2))
	wantNothing(t, "Cracks", n != 0, e, api.OK)
	n, e = level.Cracks(3, append(slices.Repeat(two(2), api.MaxTriangles/2-1), two(2)[0], api.Triangle{A: two(2)[0].C, B: at(0, 0), C: at(1, 1)}))
	if n != api.MaxTriangles-1 || e != api.OK {
		t.Error("Cracks", n, e)
	}
}

// P207, P210: just the triangles of the document are taken, at all sizes.
func TestEveryTriangle(t *testing.T) {
	for k := 1; k <= 7; k++ {
		all := allTriangles(1 << k)
		if len(all) != 4<<(2*k)-2 {
			t.Fatal("triangles", k, len(all))
		}
		_, e := level.Cracks(1<<k+1, all)
		wantError(t, "Cracks", e, api.OK)
	}
	known := map[api.Triangle]bool{}
	for _, u := range allTriangles(4) {
		known[u] = true
	}
	places := cells(region(0, 0, 5, 5))
	for _, a := range places {
		for _, b := range places {
			for _, c := range places {
				u := api.Triangle{A: a, B: b, C: c}
				_, e := level.Cracks(5, []api.Triangle{u})
				if known[u] != (e == api.OK) || !known[u] && e != api.ErrForm {
					t.Error("Cracks", u, e)
				}
			}
		}
	}
}
