package water_test

import (
	"testing"

	"tarnfell/api"
	"tarnfell/water"
)

// P71: the greatest drop above 0, of equal ones the first, with each operation rounded.
func TestSteep(t *testing.T) {
	n := &numbers{state: 5}
	for range 10 {
		for _, f := range n.fields(top) {
			l, e := water.Steep(f)
			wantList(t, "Steep", l, e, steepOf(f))
		}
	}
}

// middle is the direction that Steep gives for the middle of 3 by 3 cells; the neighbours stand in the order of directions.
func middle(t *testing.T, v float32, around [8]float32) int {
	t.Helper()
	f := of(-4, 7, 3, 3, around[5], around[6], around[7], around[4], v, around[0], around[3], around[2], around[1])
	l, e := water.Steep(f)
	if e != api.OK || len(l) != 9 {
		t.Fatal("Steep", l, e)
	}
	return l[4]
}

// P71: known drops.
func TestSteepOfOneCell(t *testing.T) {
	for d := range 8 {
		around := [8]float32{5, 5, 5, 5, 5, 5, 5, 5}
		around[d] = 4
		if got := middle(t, 5, around); got != d {
			t.Errorf("Steep to %d is %d", d, got)
		}
		// Of equal drops the first one counts; the last one alone is steeper by the least bit.
		around = [8]float32{4, 4, 4, 4, 4, 4, 4, 4}
		around[d] = before(4)
		if got := middle(t, 5, around); d%2 == 0 && got != d || d%2 == 1 && got != 0 {
			t.Errorf("Steep is %d, with %d the lowest", got, d)
		}
	}
	high := [8]float32{6, 6, 6, 6, 6, 6, 6, 6}
	for _, s := range []struct {
		v      float32
		around [8]float32
		want   int
	}{
		{5, high, -1}, {6, high, -1}, {after(6), high, 0},
		{0, [8]float32{minusZero, minusZero, 0, 0, 0, 0, 0, 0}, -1}, {minusZero, [8]float32{}, -1},
		{5, [8]float32{6, 3, 6, 6, 4, 6, 6, 6}, 1}, {5, [8]float32{6, 3.75, 6, 6, 4, 6, 6, 6}, 4}, {5, [8]float32{4, 3.5, 6, 6, 6, 6, 6, 6}, 1},
		// The drop over the root of 2 is 1 just where the difference is this root, rounded.
		{root2, [8]float32{2, 0, root2 - 1, 2, 2, 2, 2, 2}, 1}, {root2, [8]float32{root2 - 1, 0, 2, 2, 2, 2, 2, 2}, 0}, {root2, [8]float32{2, 0, root2 - 1 - 0x1p-23, 2, 2, 2, 2, 2}, 2},
		{tiny, [8]float32{tiny, 0, 0, 1, 1, 1, 1, 1}, 1}, {tiny, [8]float32{tiny, tiny, tiny, 0, 1, 1, 1, 1}, 3},
		{top, [8]float32{-top, -top, -top, -top, -top, -top, -top, -top}, 0},
	} {
		if got := middle(t, s.v, s.around); got != s.want {
			t.Errorf("Steep of %v in %v is %d, want %d", s.v, s.around, got, s.want)
		}
	}
	l, e := water.Steep(row(3, 2, 1, 1, 2))
	wantList(t, "Steep", l, e, []int{0, 0, -1, -1, 4})
	l, e = water.Steep(of(1, 1, 1, 4, 1, 2, 2, 1))
	wantList(t, "Steep", l, e, []int{-1, 6, 2, -1})
	l, e = water.Steep(row(7))
	wantList(t, "Steep", l, e, []int{-1})
}

// P72: directions of the filled ground, and over the plains in it by rank.
func TestDrain(t *testing.T) {
	n := &numbers{state: 6}
	for range 10 {
		for _, f := range n.fields(top) {
			l, e := water.Drain(f)
			wantList(t, "Drain", l, e, drained(f))
		}
	}
}

// P72: known ways over plains.
func TestDrainOfPlains(t *testing.T) {
	flat := of(0, 0, 5, 5, make([]float32, 25)...)
	l, e := water.Drain(flat)
	wantList(t, "Drain", l, e, []int{
		-1, -1, -1, -1, -1,
		-1, 3, 5, 0, -1,
		-1, 3, 0, 0, -1,
		-1, 1, 1, 0, -1,
		-1, -1, -1, -1, -1})
	// In a valley with one way out water goes there, and ranks count steps in all eight directions alike.
	l, e = water.Drain(of(0, 0, 6, 4,
		9, 9, 9, 9, 9, 9,
		9, 2, 2, 2, 2, 9,
		9, 2, 2, 2, 2, 1,
		9, 9, 9, 9, 9, 9))
	wantList(t, "Drain", l[6:18], e, []int{0, 0, 0, 0, 1, 2, 0, 0, 0, 0, 0, -1})
	// A cell of the border from which it goes nowhere down stays as it is, also in a plain.
	l, e = water.Drain(row(2, 2, 2, 1))
	wantList(t, "Drain", l, e, []int{-1, -1, 0, -1})
	l, e = water.Drain(bowl(5, 0))
	wantList(t, "Drain", l, e, []int{-1, -1, -1, -1, 0, -1, -1, -1, -1})
}

// P72: each way leads to a cell of the border with -1, in fewer steps than there are cells, and never rises.
func TestDrainLeadsOut(t *testing.T) {
	n := &numbers{state: 7}
	for range 10 {
		for _, f := range n.fields(top) {
			w, _ := water.Filled(f, 0)
			dirs, e := water.Drain(f)
			wantError(t, "CheckDirs of Drain", water.CheckDirs(f.Region, dirs), e)
			for i := range dirs {
				way, ends := follow(f.Region, dirs, i)
				if !ends || len(way) > len(dirs) || !onBorder(f.Region, way[len(way)-1]) {
					t.Fatal("Drain: a way does not lead out", f, dirs)
				}
				for k := 1; k < len(way); k++ {
					if w.V[way[k]] > w.V[way[k-1]] {
						t.Error("Drain: a way rises", f, dirs)
					}
				}
			}
		}
	}
}
