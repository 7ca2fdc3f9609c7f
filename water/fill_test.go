package water_test

import (
	"slices"
	"testing"

	"tarnfell/api"
	"tarnfell/field"
	"tarnfell/water"
)

// P70: the least spill of all ways, against spills that are lowered until none can be.
func TestFilled(t *testing.T) {
	n := &numbers{state: 1}
	for range 5 {
		for _, f := range n.fields(top / 2) {
			for _, slope := range []float32{0, minusZero, tiny, 0.1, n.share(), 1, 1000.3} {
				g, e := water.Filled(f, slope)
				wantLevels(t, "Filled", g, e, spilled(f, slope))
			}
		}
	}
}

// P70: known surfaces: pits, ways in all eight directions, and slopes that are rounded.
func TestFilledOfKnownFields(t *testing.T) {
	for _, s := range []struct {
		f     api.Field
		slope float32
		want  []float32
	}{
		{row(3), 5, []float32{3}},
		{row(3, -1, 4), 5, []float32{3, -1, 4}},
		{of(0, 0, 2, 3, 3, -1, 4, 9, -8, 6), 5, []float32{3, -1, 4, 9, -8, 6}},
		{bowl(5, 1), 0, []float32{5, 5, 5, 5, 5, 5, 5, 5, 5}},
		{bowl(5, 1), 1024, []float32{5, 5, 5, 5, 1029, 5, 5, 5, 5}},
		{bowl(5, 9), 1, []float32{5, 5, 5, 5, 9, 5, 5, 5, 5}},
		{bowl(5, 5.5), 1, []float32{5, 5, 5, 5, 6, 5, 5, 5, 5}},
		{bowl(top/2, 0), 0x1p-5, slices.Repeat([]float32{top / 2}, 9)},
		{bowl(top/2, 0), after(0x1p-5), []float32{top / 2, top / 2, top / 2, top / 2, after(top / 2), top / 2, top / 2, top / 2, top / 2}},
		// The water of a chain of two pits goes out over the lower sill; each step on the way adds the slope.
		{of(0, 0, 5, 3, 9, 9, 9, 9, 9, 7, 1, 3, 2, 9, 9, 9, 9, 9, 9), 0, []float32{9, 9, 9, 9, 9, 7, 7, 7, 7, 9, 9, 9, 9, 9, 9}},
		{of(0, 0, 5, 3, 9, 9, 9, 9, 9, 7, 1, 3, 2, 9, 9, 9, 9, 9, 9), 0.5, []float32{9, 9, 9, 9, 9, 7, 7.5, 8, 8.5, 9, 9, 9, 9, 9, 9}},
		{of(0, 0, 5, 3, 9, 9, 9, 9, 9, 7, 1, 8, 2, 9, 9, 9, 9, 9, 9), 0.5, []float32{9, 9, 9, 9, 9, 7, 7.5, 8, 8.5, 9, 9, 9, 9, 9, 9}},
	} {
		g, e := water.Filled(s.f, s.slope)
		wantLevels(t, "Filled", g, e, api.Field{Region: s.f.Region, V: s.want})
	}
	for i := range 9 {
		f := bowl(6, 1)
		f.V[i] = 2
		want := slices.Repeat([]float32{6}, 9)
		want[4] = 2
		want[i] = 2
		if i == 4 {
			want[4] = 6
		}
		g, e := water.Filled(f, 0)
		wantLevels(t, "Filled", g, e, api.Field{Region: f.Region, V: want})
	}
}

// P70: a way that is longer is better if it need not pass a sill.
func TestFilledByALongWay(t *testing.T) {
	f := of(0, 0, 7, 5,
		9, 9, 9, 9, 9, 9, 9,
		9, 1, 9, 1, 1, 1, 9,
		9, 1, 9, 1, 9, 1, 9,
		9, 1, 1, 1, 9, 1, 0,
		9, 9, 9, 9, 9, 9, 9)
	g, e := water.Filled(f, 0)
	wantLevels(t, "Filled", g, e, f)
	g, e = water.Filled(f, 0.625)
	wantLevels(t, "Filled", g, e, of(0, 0, 7, 5,
		9, 9, 9, 9, 9, 9, 9,
		9, 4.125, 9, 2.25, 1.625, 1.625, 9,
		9, 3.5, 9, 2.25, 9, 1, 9,
		9, 3.5, 2.875, 2.875, 9, 1, 0,
		9, 9, 9, 9, 9, 9, 9))
}

// P70, G7: the errors, in their order.
func TestFilledErrors(t *testing.T) {
	for _, s := range badSingles(0, 1024) {
		g, e := water.Filled(row(1, 2), s.v)
		wantNoField(t, "Filled", g, e, s.want)
		for _, b := range badFields() {
			g, e = water.Filled(b.f, s.v)
			wantNoField(t, "Filled", g, e, b.want)
		}
	}
	g, e := water.Filled(bowl(top, 0), 0x1p-5)
	wantLevels(t, "Filled", g, e, bowl(top, top))
	g, e = water.Filled(bowl(top, 0), 0.125)
	wantNoField(t, "Filled beyond heights", g, e, api.ErrRange)
}

// P87: filled ground lies over the ground, filling it again changes nothing, and it never rises on a way to the border; a cell that is higher than the ground is as high as the lowest one beside it, so nothing less would do.
func TestFilledHolds(t *testing.T) {
	n := &numbers{state: 2}
	for range 5 {
		for _, f := range n.fields(top) {
			w, e := water.Filled(f, 0)
			if e != api.OK {
				t.Fatal(e)
			}
			again, e := water.Filled(w, 0)
			wantLevels(t, "Filled of Filled", again, e, w)
			for i, v := range w.V {
				if v < f.V[i] || onBorder(f.Region, i) && v != f.V[i] {
					t.Errorf("Filled makes %v of %v", f.V[i], v)
				}
				if v > f.V[i] && v != lowestBeside(w, i) {
					t.Errorf("Filled: %v lies over %v beside %v", v, f.V[i], lowestBeside(w, i))
				}
			}
			wantWaysOut(t, w)
		}
	}
}

func lowestBeside(f api.Field, i int) float32 {
	low := inf
	for _, n := range around(f.Region, i) {
		low = min(low, f.V[n])
	}
	return low
}

// wantWaysOut wants all cells to be reached from the border by ways that never fall.
func wantWaysOut(t *testing.T, w api.Field) {
	t.Helper()
	reached := make([]bool, len(w.V))
	var queue []int
	for i := range w.V {
		if onBorder(w.Region, i) {
			reached[i] = true
			queue = append(queue, i)
		}
	}
	for len(queue) > 0 {
		i := queue[0]
		queue = queue[1:]
		for _, n := range around(w.Region, i) {
			if !reached[n] && w.V[n] >= w.V[i] {
				reached[n] = true
				queue = append(queue, n)
			}
		}
	}
	if slices.Contains(reached, false) {
		t.Error("Filled: no way leads down to the border", w)
	}
}

// P87: with a slope above 0 each cell that is not of the border has a neighbour that is not higher.
func TestFilledWithASlope(t *testing.T) {
	n := &numbers{state: 3}
	for range 5 {
		for _, f := range n.fields(top / 2) {
			for _, slope := range []float32{tiny, 0.01, n.share() * 1024} {
				w, e := water.Filled(f, slope)
				if e != api.OK {
					t.Fatal(e)
				}
				for i, v := range w.V {
					if !onBorder(f.Region, i) && lowestBeside(w, i) > v {
						t.Errorf("Filled: no neighbour is as low as %v", v)
					}
				}
			}
		}
	}
}

// P70: fields of the greatest size.
func TestFilledOfALargeField(t *testing.T) {
	n := &numbers{state: 4}
	f := n.field(region(-7, 9, 512, 128), func() float32 { return n.single() })
	w, e := water.Filled(f, 0)
	if e != api.OK || field.Check(w) != api.OK {
		t.Fatal(e)
	}
	wantWaysOut(t, w)
}
