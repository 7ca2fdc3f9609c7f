package level_test

import (
	"math"
	"slices"
	"testing"

	"tarnfell/api"
	"tarnfell/field"
	"tarnfell/level"
)

var (
	wildInts    = []int{0, 1, -1, 2, 7, 8, 10, 64, 129, 512, edge, -edge, edge + 1, 1 << 30, 1<<32 + 1, 1 << 40, -1 << 62, math.MaxInt, math.MinInt}
	wildSingles = []float32{0, minusZero, 1, -0.5, 0.125, tiny, -tiny, 64, 65536, top, -top, beyond, math.MaxFloat32, -math.MaxFloat32, inf, -inf, nan}
)

// G3, P2: all functions return the errors of fields ahead of all others, and nothing with an error.
func TestBadFields(t *testing.T) {
	for _, l := range lookers() {
		for _, s := range badFields() {
			for _, wrong := range []bool{false, true} {
				some, e := l.look(s.f, wrong)
				wantNothing(t, l.name, some, e, s.want)
			}
		}
	}
}

// wantRight wants either an error or a field that is right.
func wantRight(t *testing.T, what string, f api.Field, e api.Errno) {
	t.Helper()
	if e != api.OK {
		wantNothing(t, what, isSome(f), e, e)
	} else if e := field.Check(f); e != api.OK {
		t.Errorf("%s: the result has the error %d", what, e)
	}
}

// wantRightSingles wants no list with an error, and heights in it otherwise.
func wantRightSingles(t *testing.T, what string, l []float32, e api.Errno) {
	t.Helper()
	if e != api.OK {
		wantNothing(t, what, len(l) > 0, e, e)
	}
	wantError(t, what, field.CheckHeights(l...), api.OK)
}

// G1, G3, G7: no function panics, whatever its integers are.
func TestWildInts(t *testing.T) {
	f := of(0, 0, 3, 3, 1, 2, 3, 4, 5, 6, 7, 8, 9)
	for _, a := range wildInts {
		_, e := level.Pyramid(f, a)
		_, e2 := level.Losses(f, a)
		wantError(t, "Losses", e2, e)
		l, e := level.Patches(f, a, api.Eye{Scale: 1})
		wantNothing(t, "Patches", e != api.OK && len(l) > 0, e, e)
		for _, b := range wildInts {
			p := at(a, b)
			for _, r := range []api.Region{region(a, b, 2, 2), region(0, 0, a, b), region(b, 1, a, 3), region(a, a, b, b)} {
				wantWildField(t, api.Field{Region: r, V: []float32{1, 2, 3, 4}})
				g, e := level.Up(f, r)
				wantRight(t, "Up", g, e)
			}
			v, e := level.MeshAt(f, 1, a, b)
			wantNothing(t, "MeshAt", e != api.OK && v != 0, e, e)
			n, e := level.Cracks(a, []api.Triangle{{A: p, B: at(b, a), C: at(b, b)}})
			wantNothing(t, "Cracks", n != 0, e, e)
			n, e = level.Cracks(3, []api.Triangle{two(2)[0], {A: at(0, 0), B: at(2, 2), C: p}})
			wantNothing(t, "Cracks", n != 0, e, e)
			for _, q := range []api.Point{at(0, 0), at(b, a), at(a, a)} {
				if cells, e := level.Line(p, q); e != api.OK {
					wantNothing(t, "Line", len(cells) > 0, e, e)
				}
				values, e := level.Profile(f, p, q)
				wantRightSingles(t, "Profile", values, e)
				is, e := level.Sees(f, p, q, 1)
				wantNothing(t, "Sees", e != api.OK && is, e, e)
			}
			seen, e := level.View(f, at(a, 1), 1, b)
			wantNothing(t, "View", e != api.OK && len(seen) > 0, e, e)
			v, is, e := level.Horizon(f, at(1, a), 1, b)
			wantNothing(t, "Horizon", e != api.OK && (is || v != 0), e, e)
			_, is, n, e = level.HitBounds(f, []api.Box{{Level: a, X: b, Y: a}}, api.Ray{DX: 1})
			wantNothing(t, "HitBounds", is || n != 0, e, api.ErrForm)
		}
	}
}

func wantWildField(t *testing.T, f api.Field) {
	t.Helper()
	want := field.Check(f)
	for _, l := range lookers() {
		some, e := l.look(f, false)
		if want != api.OK {
			wantNothing(t, l.name, some, e, want)
		} else if e != api.OK {
			wantNothing(t, l.name, some, e, e)
		}
	}
}

// G1, G3, G7: no function panics, whatever its singles are, and no result has a NaN.
func TestWildSingles(t *testing.T) {
	for _, a := range wildSingles {
		for _, b := range wildSingles {
			wantWildField(t, of(0, 0, 2, 2, a, b, 1, a))
			wantWildField(t, of(0, 0, 3, 3, a, b, 1, b, a, -1, a, 0, b))
			f := of(0, 0, 3, 3, top, 0, -top, tiny, 1, -1, top, -top, minusZero)
			v, e := level.MeshAt(of(0, 0, 3, 3, a, b, 1, b, a, -1, a, 0, b), 1, 1, 0)
			wantNothing(t, "MeshAt", e != api.OK && v != 0, e, e)
			wantError(t, "MeshAt", field.CheckHeights(v), api.OK)
			l, e := level.Errors(of(0, 0, 3, 3, a, b, 1, b, a, -1, a, 0, b))
			wantRightSingles(t, "Errors", l, e)
			l, e = level.Losses(of(0, 0, 2, 2, a, b, b, b), 2)
			wantRightSingles(t, "Losses", l, e)
			for _, c := range wildSingles {
				for _, r := range []api.Ray{{X: a, Y: b, DX: c, DY: 1, DH: -1, Most: 9}, {X: 1, H: a, DX: b, DY: c, Most: 5}, {H: a, DX: 1, DH: b, Most: c}, {X: 0.5, H: 1, DX: tiny, DY: a, DH: b, Most: c}} {
					if wantE := level.CheckRay(r); wantE == api.OK {
						wantRay(t, f, r)
					} else {
						s, is, e := level.Hit(f, r)
						wantNothing(t, "Hit", is || s != api.Strike{}, e, wantE)
					}
				}
				p, e := level.Patches(f, 8, api.Eye{X: a, Y: b, H: c, Scale: 1})
				wantNothing(t, "Patches", e != api.OK && len(p) > 0, e, e)
				p, e = level.Patches(f, 8, api.Eye{X: 1, H: b, Scale: a})
				wantNothing(t, "Patches", e != api.OK && len(p) > 0, e, e)
			}
		}
		c, e := level.Contour(of(0, 0, 2, 2, top, -top, tiny, 1), a)
		wantNothing(t, "Contour", e != api.OK && len(c) > 0, e, e)
		for _, curve := range c {
			for _, s := range curve.Spots {
				wantError(t, "Contour", field.CheckHeights(s.X, s.Y), api.OK)
			}
		}
	}
}

func scribble[T any](l []T, v T) {
	l = l[:cap(l)]
	for i := range l {
		l[i] = v
	}
}

// wantFresh wants a function to leave the list alone from which it makes another one, with the room behind it, and to make that one anew.
func wantFresh[A comparable, R any](t *testing.T, what string, l []A, other A, none R, same func(a, b R) bool, of func(l []A) []R) {
	t.Helper()
	l = append(slices.Clone(l), other, other)[:len(l)]
	kept := slices.Clone(l[:len(l)+2])
	first := of(l)
	want := slices.Clone(first)
	scribble(first, none)
	second := of(l)
	if !slices.Equal(l[:len(l)+2], kept) {
		t.Errorf("%s changes its list", what)
	}
	scribble(l, other)
	if len(want) == 0 || !slices.EqualFunc(second, want, same) {
		t.Errorf("%s: got %v, want %v", what, second, want)
	}
}

// G2: arguments are neither modified nor retained, results share no memory, and calls leave no state.
func TestArgumentsAreLeftAlone(t *testing.T) {
	n := &numbers{state: 60}
	grid, even := region(-4, 6, 9, 9), region(-4, 8, 16, 8)
	values := func(r api.Region) []float32 { return n.field(r, n.single).V }
	with := func(r api.Region, of func(f api.Field) []float32) func(v []float32) []float32 {
		return func(v []float32) []float32 { return of(api.Field{Region: r, V: v}) }
	}
	for name, of := range map[string]func(f api.Field) []float32{
		"Down":      func(f api.Field) []float32 { g, _ := level.Down(f); return g.V },
		"Up":        func(f api.Field) []float32 { g, _ := level.Up(f, region(-8, 16, 32, 16)); return g.V },
		"Pyramid 0": func(f api.Field) []float32 { l, _ := level.Pyramid(f, 1); return l[0].V },
		"Pyramid 1": func(f api.Field) []float32 { l, _ := level.Pyramid(f, 3); return l[1].V },
		"Pyramid 2": func(f api.Field) []float32 { l, _ := level.Pyramid(f, 3); scribble(l[0].V, 7); return l[2].V },
		"Losses":    func(f api.Field) []float32 { l, _ := level.Losses(f, 3); return l },
		"Profile":   func(f api.Field) []float32 { l, _ := level.Profile(f, at(-4, 8), at(11, 15)); return l },
		"others": func(f api.Field) []float32 {
			h, _, _ := level.Horizon(f, at(-2, 9), 1, 1)
			s, _, _ := level.Hit(f, api.Ray{X: -4, Y: 9, H: 4, DX: 1, DH: -0.5, Most: 40})
			sees, _ := level.Sees(f, at(-2, 9), at(5, 12), 0.1)
			return []float32{h, s.T, map[bool]float32{true: 1}[sees]}
		},
	} {
		wantFresh(t, name, values(even), 9, -1, equal, with(even, of))
	}
	for name, of := range map[string]func(f api.Field) []float32{
		"Errors": func(f api.Field) []float32 { l, _ := level.Errors(f); return l },
		"MeshAt": func(f api.Field) []float32 {
			k, _ := level.CheckGrid(f)
			v, _ := level.MeshAt(f, 0.5, 3, 5)
			return []float32{float32(k), v}
		},
	} {
		wantFresh(t, name, values(grid), 9, -1, equal, with(grid, of))
	}
	ofGrid := func(v []float32) api.Field { return api.Field{Region: grid, V: v} }
	wantFresh(t, "Mesh", values(grid), 9, api.Triangle{}, equal, func(v []float32) []api.Triangle { l, _ := level.Mesh(ofGrid(v), 0.7); return l })
	wantFresh(t, "Patches", values(grid), 9, api.Patch{}, equal, func(v []float32) []api.Patch { l, _ := level.Patches(ofGrid(v), 8, api.Eye{Scale: 0.1}); return l })
	wantFresh(t, "Bounds", values(grid), 9, api.Box{}, equal, func(v []float32) []api.Box { l, _ := level.Bounds(ofGrid(v)); return l })
	wantFresh(t, "View", values(grid), 9, true, equal, func(v []float32) []bool { l, _ := level.View(ofGrid(v), at(0, 9), 0.3, 7); return l })
	wantFresh(t, "Contour", values(grid), 9, api.Curve{}, sameCurve, func(v []float32) []api.Curve { l, _ := level.Contour(ofGrid(v), 0); return l })
	wantFresh(t, "Spots", values(grid), 9, api.Spot{}, sameSpot, func(v []float32) []api.Spot {
		l, _ := level.Contour(ofGrid(v), 0)
		scribble(l[1].Spots, api.Spot{X: 9})
		return l[0].Spots
	})
	wantFresh(t, "Cracks", allTriangles(4), api.Triangle{}, -1, equal, func(l []api.Triangle) []int { n, _ := level.Cracks(5, l); return []int{n} })
	f := ofGrid(values(grid))
	wantFresh(t, "HitBounds", boundsOf(f), api.Box{Level: 77}, -1, equal, func(b []api.Box) []float32 {
		s, _, n, _ := level.HitBounds(f, b, api.Ray{X: -4, Y: 9, H: 4, DX: 1, DH: -0.5, Most: 40})
		return []float32{s.T, float32(n)}
	})
	wantFresh(t, "Line", []int{3}, 9, api.Point{}, equal, func(l []int) []api.Point { p, _ := level.Line(at(0, 0), at(l[0], 7)); return p })
}

// G5: the greatest fields end soon.
func TestGreatestFields(t *testing.T) {
	n := &numbers{state: 61}
	for _, r := range []api.Region{region(-edge, -edge, 512, 128), region(edge-256, edge-256, 256, 256)} {
		f := n.field(r, n.single)
		l, e := level.Losses(f, 8)
		wantSingles(t, "Losses", l, e, lossesOf(f, 8)...)
		seen, e := level.View(f, at(r.X, r.Y), 5, 512)
		if e != api.OK || len(seen) != r.W*r.H {
			t.Error("View", len(seen), e)
		}
		c, e := level.Contour(f, 0)
		if e != api.OK || len(c) < 1000 {
			t.Error("Contour", len(c), e)
		}
		p, e := level.Patches(f, 8, api.Eye{X: 1, Scale: 1})
		if e != api.OK || len(p) != 1024 {
			t.Error("Patches", len(p), e)
		}
	}
	f := n.field(region(0, 0, 256, 256), n.single)
	for range 4 {
		wantRay(t, f, n.ray(f.Region, 1))
	}
	// A curve that goes through nearly all squares.
	f = eachCell(region(0, 0, 255, 257), func(p api.Point) float32 {
		if p.Y%2 == 0 && (p.Y%4 == 0 && p.X < 254 || p.Y%4 == 2 && p.X > 0) {
			return 1
		}
		return 0
	})
	c, e := level.Contour(f, 0.5)
	if e != api.OK || len(c) == 0 {
		t.Error("Contour", len(c), e)
	}
}
