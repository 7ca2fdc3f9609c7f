package shape_test

import (
	"math"
	"slices"
	"testing"

	"tarnfell/api"
	"tarnfell/field"
	"tarnfell/shape"
)

var (
	wildInts    = []int{0, 1, -1, 2, 3, 64, 256, 1000, 4096, api.MaxPlace, -api.MaxPlace, 1<<32 + 1, 1 << 40, -1 << 62, math.MaxInt, math.MinInt}
	wildSingles = []float32{0, minusZero, 1, -0.5, 0.125, tiny, 64, top, -top, beyond, math.MaxFloat32, -math.MaxFloat32, inf, -inf, nan}
)

// wantRight wants either an error or a field that is right.
func wantRight(t *testing.T, what string, f api.Field, e api.Errno) {
	t.Helper()
	if e != api.OK {
		wantNoField(t, what, f, e, e)
	} else if e := field.Check(f); e != api.OK {
		t.Errorf("%s: the result has the error %d", what, e)
	}
}

// wantRightSingle wants either an error or a height.
func wantRightSingle(t *testing.T, what string, v float32, e api.Errno) {
	t.Helper()
	if e != api.OK {
		wantNoSingle(t, what, v, e, e)
	} else if !(v >= -top && v <= top) {
		t.Errorf("%s: the result is %v", what, v)
	}
}

// G1, G3, G7: no function panics, whatever its integers are.
func TestWildInts(t *testing.T) {
	f := slanting(1, 2)
	for _, a := range wildInts {
		g, e := shape.Smooth(f, a)
		wantRight(t, "Smooth", g, e)
		g, e = shape.Thermal(f, api.Wear{Rate: 0.125, Steps: a})
		wantRight(t, "Thermal", g, e)
		for _, b := range wildInts {
			shape.Normal(f, a, b)
			for _, r := range []api.Region{region(a, b, 3, 3), region(0, 0, a, b)} {
				for _, m := range makers() {
					g, e = m.make(api.Field{Region: r, V: f.V})
					wantRight(t, m.name, g, e)
				}
			}
			for _, c := range wildInts {
				wantWildBends(t, f, a, b, c)
			}
		}
	}
}

func wantWildBends(t *testing.T, f api.Field, a, b, c int) {
	t.Helper()
	g, e := shape.Shade(f, a, b, c)
	wantRight(t, "Shade", g, e)
	for _, s := range []api.Brush{{Kind: a, X: b, Y: c, Radius: 9, Height: top}, {Kind: api.BrushBell, X: a, Y: b, Radius: c, Height: top}} {
		g, e = shape.Stamp(f, s)
		wantRight(t, "Stamp", g, e)
		v, e := shape.Weight(s, b, a)
		wantRightSingle(t, "Weight", v, e)
		shape.Box(s)
	}
	for _, l := range []api.Fault{{A: a, B: b, C: c, Width: 9, Throw: top}, {A: 1, B: a, C: b, Width: c, Throw: top}} {
		g, e = shape.Faults(f, []api.Fault{l})
		wantRight(t, "Faults", g, e)
		v, e := shape.Throw(l, c, a)
		wantRightSingle(t, "Throw", v, e)
	}
	o := api.Fold{A: a, B: b, Period: c, Height: top}
	g, e = shape.Folds(f, []api.Fold{o})
	wantRight(t, "Folds", g, e)
	v, e := shape.Lift(o, b, c)
	wantRightSingle(t, "Lift", v, e)
}

// G1, G3, G7: no function panics, whatever its singles are.
func TestWildSingles(t *testing.T) {
	for _, a := range wildSingles {
		for _, b := range wildSingles {
			f := around(a, b, 1, a, b)
			for _, m := range makers() {
				g, e := m.make(f)
				wantRight(t, m.name, g, e)
			}
			shape.Aspect(f)
			shape.Normal(f, 1, 1)
			v, e := shape.Steepest(f)
			wantRightSingle(t, "Steepest", v, e)
			f = row(top, 0, -top, tiny)
			g, e := shape.Terrace(f, a, b)
			wantRight(t, "Terrace", g, e)
			g, e = shape.Thermal(slanting(top, -top), api.Wear{Talus: a, Rate: b, Steps: 1})
			wantRight(t, "Thermal", g, e)
			for _, c := range wildSingles {
				g, e = shape.Select(f, a, b, c)
				wantRight(t, "Select", g, e)
				v, e = shape.Moved(api.Wear{Talus: a, Rate: 0.125}, b, c)
				wantRightSingle(t, "Moved", v, e)
			}
		}
		f := of(0, 0, 2, 2, top, 0, -top, 1)
		g, e := shape.Stamp(f, api.Brush{Kind: api.BrushCone, Radius: 3, Height: a})
		wantRight(t, "Stamp", g, e)
		g, e = shape.Faults(f, []api.Fault{{A: 1, Width: 3, Throw: a}})
		wantRight(t, "Faults", g, e)
		g, e = shape.Folds(f, []api.Fold{{A: 1, Period: 3, Height: a}})
		wantRight(t, "Folds", g, e)
	}
}

// P45 to P52: all functions return the errors of a field, and make it smaller by just what is told.
func TestMakers(t *testing.T) {
	for _, m := range makers() {
		for _, s := range badFields() {
			g, e := m.make(s.f)
			wantNoField(t, m.name, g, e, s.want)
		}
		for side := 1; side < 9; side++ {
			f, _ := field.Fill(region(-side, 5, side, 8), 1)
			g, e := m.make(f)
			if side <= 2*m.less {
				wantNoField(t, m.name, g, e, api.ErrEmpty)
			} else if e != api.OK || g.Region != smaller(f.Region, m.less) {
				t.Errorf("%s of %v has %v, error %d", m.name, f.Region, g.Region, e)
			}
		}
	}
}

// Chapter 3: a cell of a result hangs on the cells around it up to the told distance, and on its place.
func TestPlacesAlone(t *testing.T) {
	n := &numbers{state: 19}
	f := n.field(region(-14, -12, 30, 25), func() float32 { return n.single() * 2 })
	for _, m := range makers() {
		all, e := m.make(f)
		if e != api.OK {
			t.Fatal(m.name, e)
		}
		for range 50 {
			r := region(n.between(all.X, all.X+9), n.between(all.Y, all.Y+9), n.between(1, 10), n.between(1, 9))
			part, e := field.Cut(f, smaller(r, -m.less))
			if e != api.OK {
				t.Fatal(e)
			}
			g, e := m.make(part)
			wantField(t, m.name, g, e, eachCell(r, func(x, y int) float32 { return valueAt(all, x, y) }))
		}
	}
}

// G2: arguments are neither modified nor retained, results share no memory, and calls leave no state.
func TestArgumentsAreLeftAlone(t *testing.T) {
	n := &numbers{state: 20}
	for _, m := range makers() {
		f := n.field(region(-4, -5, 9, 11), n.single)
		f.V = append(f.V, 91, 92, 93)[:len(f.V)]
		room := f.V[:len(f.V)+3]
		kept := slices.Clone(room)
		first, e := m.make(f)
		if e != api.OK {
			t.Fatal(m.name, e)
		}
		want := api.Field{Region: first.Region, V: slices.Clone(first.V)}
		scribble(first.V)
		second, e := m.make(f)
		wantField(t, m.name+" once more", second, e, want)
		if !slices.Equal(room, kept) {
			t.Errorf("%s changes its field", m.name)
		}
		scribble(room)
		wantField(t, m.name+" with another field afterwards", second, e, want)
	}
}

func scribble(v []float32) {
	v = v[:cap(v)]
	for i := range v {
		v[i] = -12345
	}
}

// G2: Aspect, Normal and Steepest leave fields alone, and lists of faults and folds are left alone, too.
func TestListsAreLeftAlone(t *testing.T) {
	f := slanting(3, -1)
	kept := slices.Clone(f.V)
	first, _, _ := shape.Aspect(f)
	first[0] = 99
	second, _, e := shape.Aspect(f)
	if e != api.OK || !slices.Equal(second, []int{0}) {
		t.Error("Aspect", second, e)
	}
	shape.Normal(f, 1, 1)
	shape.Steepest(f)
	if !slices.Equal(f.V, kept) {
		t.Error("the field is changed", f.V)
	}
	faults := []api.Fault{{A: 1, Throw: 1}, {B: 2, Width: 3, Throw: 4}, {A: 9}}
	folds := []api.Fold{{A: 1, Period: 2, Height: 3}, {B: 4, Period: 5, Height: 6}, {A: 9}}
	keptFaults, keptFolds := slices.Clone(faults), slices.Clone(folds)
	shape.Faults(f, faults[:2])
	shape.Folds(f, folds[:2])
	if !slices.Equal(faults, keptFaults) || !slices.Equal(folds, keptFolds) {
		t.Error("a list is changed", faults, folds)
	}
}

// G5: the greatest fields, with the longest lists and the most steps.
func TestGreatestFields(t *testing.T) {
	n := &numbers{state: 21}
	for _, r := range []api.Region{region(-api.MaxPlace, -api.MaxPlace, 512, 128), region(api.MaxPlace-256, api.MaxPlace-256, 256, 256)} {
		f := n.field(r, n.single)
		for _, m := range makers() {
			g, e := m.make(f)
			if e != api.OK || g.Region != smaller(r, m.less) {
				t.Error(m.name, g.Region, e)
			}
		}
		g, e := shape.Faults(f, slices.Repeat([]api.Fault{{A: 1000, B: -999, C: 1 << 40, Width: 4096, Throw: 1}}, 100))
		if e != api.OK || g.Region != r {
			t.Error("Faults", g.Region, e)
		}
		g, e = shape.Folds(f, slices.Repeat([]api.Fold{{A: 1000, B: -999, Period: 1 << 24, Height: 1}}, 100))
		if e != api.OK || g.Region != r {
			t.Error("Folds", g.Region, e)
		}
	}
	f := n.field(region(0, 0, 256, 256), func() float32 { return n.single() * top })
	g, e := shape.Thermal(f, api.Wear{Rate: 0.125, Steps: 64})
	if e != api.OK || g.Region != region(64, 64, 128, 128) {
		t.Error("Thermal", g.Region, e)
	}
	g, e = shape.Smooth(f, 64)
	if e != api.OK || g.Region != region(64, 64, 128, 128) {
		t.Error("Smooth", g.Region, e)
	}
}
