package recipe_test

import (
	"testing"

	"tarnfell/api"
	"tarnfell/recipe"
)

// wantBounds wants those of the last node of a text, by their bits.
func wantBounds(t *testing.T, text string, low, high float32) {
	t.Helper()
	g := graphOf(read(t, text))
	l, h, e := recipe.Bounds(g)
	if e != api.OK || len(l) != len(g.Nodes) || len(h) != len(g.Nodes) || !sameBits(l[g.Out], low) || !sameBits(h[g.Out], high) {
		t.Errorf("Bounds of %s: %v to %v, error %d; want %v to %v", text, l, h, e, low, high)
	}
}

// P147: by hand. The speckle s is from 0 to 1, u from 2 to 4, v from -3 to -1, w from -1 to 2.
func TestBounds(t *testing.T) {
	start := "s = speckle 1 0.5/u = scale s 2 2/v = scale s -2 -1/w = scale s 3 -1/"
	for _, s := range []struct {
		step      string
		low, high float32
	}{
		{"const -7", -7, -7}, {"const -0", minusZero, minusZero}, {"noise 1 2 3 1 0.5", -1.0001, 1.0001}, {"noise 2 2 3 2 0.5", -3.0003, 3.0003}, {"noise 3 2 3 2 1", -6.0006, 6.0006}, {"noise 4 2 3 3 0.5", -1.750175, 1.750175},
		{"speckle 9 0", 0, 1}, {"add u v", -1, 3}, {"add w w", -2, 4}, {"sub u v", 3, 7}, {"sub v u", -7, -3}, {"sub u u", -2, 2},
		{"mul u v", -12, -2}, {"mul v v", 1, 9}, {"mul w u", -4, 8}, {"mul w w", -2, 4}, {"mul v w", -6, 3}, {"mul u u", 4, 16},
		{"div u v", -4, -0.6666667}, {"div v u", -1.5, -0.25}, {"div w u", -0.5, 1}, {"div w v", -2, 1}, {"div u w", -top, top}, {"div u s", -top, top}, {"div v v", 0.33333334, 3},
		{"less u v", -3, -1}, {"less w s", -1, 1}, {"more u v", 2, 4}, {"more w s", 0, 2}, {"over v u", 0, 1}, {"over u v", 0, 1},
		{"scale u 3 1", 7, 13}, {"scale u -3 1", -11, -5}, {"scale w 0 5", 5, 5}, {"clamp w 0 1", 0, 1}, {"clamp w -5 1", -1, 1}, {"clamp u 0 1", 1, 1}, {"clamp v 0 1", 0, 0}, {"clamp w 0.5 9", 0.5, 2},
		{"terrace w 2 0.5", -2, 2}, {"terrace u 3 0.5", 1.0000001, 3}, {"select w 0 1 2", 0, 1},
		{"blend s s s", -0x1p-19, 1 + 0x1p-19}, {"blend u v s", -3 - 11*0x1p-20, 4 + 11*0x1p-20}, {"blend v u s", -3 - 11*0x1p-20, 4 + 11*0x1p-20}, {"blend v v s", -3 - 5*0x1p-20, -1 + 5*0x1p-20},
		{"dither s 2 1", -1 - 0x1p-19, 2 + 0x1p-19}, {"dither v 2 1", -4 - 0x1p-18, 0x1p-18}, {"dither u 2 1", 1 - 5*0x1p-20, 5 + 5*0x1p-20},
		{"stamp w 1 0 0 9 2", -1, 4.0002003}, {"stamp w 1 0 0 9 -2", -3.0002, 2}, {"stamp w 1 0 0 9 0", -1, 2}, {"fault w 1 0 0 9 2", -1, 4.0002003}, {"fault w 1 0 0 9 -2", -3.0002, 2}, {"fold w 1 0 9 2", -1, 4.0002003}, {"fold w 1 0 9 -2", -3.0002, 2},
		{"shift w 3 4", -1, 2}, {"warp w 1 2 3 4 0.5 6", -1, 2}, {"blur w 2", -1, 2}, {"blur s 16", 0, 1}, {"blur v 0", -3, -1},
		{"kernel w 1 -2", -4, 2}, {"kernel u 3 1 -1 0 2 0 0 0 0 0", 2 - 4 + 4, 4 - 2 + 8}, {"kernel w 3 1 1 1 1 -1 -1 -1 -1 0", -4 - 8, 8 + 4},
		{"slope w", 0, 2.1213202}, {"slope u", 0, 1.4142135}, {"curve w", -3, 3}, {"curve u", -2, 2}, {"curve v", -2, 2}, {"shade w 1 2 3", 0, 1.0001},
		{"thermal u 1 0 0.1", 2 - 0x1p-16, 4 + 0x1p-16}, {"smooth v 1", -3 - 3*0x1p-18, -1 + 3*0x1p-18}, {"smooth w 0", -1, 2}, {"thermal w 0 0 0.1", -1, 2}, {"smooth s 2", -0x1p-17 - 0x1p-36, 1.0000076},
	} {
		wantBounds(t, start+"r = "+s.step+"/out r", s.low, s.high)
	}
}

// P147: a lower bound that would be no height becomes -MaxHeight, an upper one MaxHeight, whichever side it leaves.
func TestBoundsOfNoHeights(t *testing.T) {
	start := "s = speckle 1 0.5/t = const 1048576/n = const -1048576/e = const 1e-45/m = const -1e-45/u = scale s 1048576 0/x = scale s -1048576 0/"
	for _, s := range []struct {
		step      string
		low, high float32
	}{
		{"add t t", -top, top}, {"add u t", top, top}, {"add n n", -top, top}, {"sub n t", -top, top}, {"sub u t", -top, 0}, {"sub t n", -top, top}, {"sub u n", top, top},
		{"mul t t", -top, top}, {"mul u t", 0, top}, {"mul n t", -top, top}, {"mul n u", -top, minusZero}, {"div t e", -top, top}, {"div u e", 0, top}, {"div u m", -top, minusZero}, {"div n e", -top, top},
		{"scale t 2 0", -top, top}, {"scale u 2 0", 0, top}, {"scale u -2 0", -top, 0}, {"scale u 1 1048576", top, top}, {"stamp u 1 0 0 9 1", 0, top}, {"stamp t 1 0 0 9 1", top, top}, {"stamp n 1 0 0 9 -1", -top, -top}, {"fault n 1 0 0 9 -1", -top, -top}, {"fold t 1 0 9 1", top, top},
		{"kernel t 1 -2", -top, top}, {"kernel u 1 -2", -top, minusZero}, {"kernel u 1 2", 0, top}, {"kernel t 1 2", -top, top}, {"dither u 2 1", -2.000001, top}, {"smooth t 1", top - 4, top}, {"smooth n 1", -top, -top + 4}, {"slope u", 0, 741455.2},
		{"curve u", -top, top}, {"terrace n 1.395575 0.25", -top, top}, {"terrace x 1.395575 0.25", -top, 0},
		// The bounds are those of the last step, not of each one: M grows beyond MaxHeight.
		{"smooth u 2", -8.000015, top}, {"thermal u 3 0 0.1", -12.000046, top},
	} {
		wantBounds(t, start+"r = "+s.step+"/out r", s.low, s.high)
	}
}

// P147: those of nodes that Out does not hang on are 0 and 0.
func TestBoundsOfWhatOutHangsOn(t *testing.T) {
	g := graphOf(read(t, "a = const 5/b = const 6/c = add a a/d = sub b c/e = scale c 2 0/out e"))
	l, h, e := recipe.Bounds(g)
	if want := []float32{5, 0, 10, 0, 20}; e != api.OK || !sameSingles(l, want) || !sameSingles(h, want) {
		t.Error("Bounds", l, h, e)
	}
	g.Out = 0
	l, h, e = recipe.Bounds(g)
	if want := []float32{5, 0, 0, 0, 0}; e != api.OK || !sameSingles(l, want) || !sameSingles(h, want) {
		t.Error("Bounds", l, h, e)
	}
}

// P147: by the document's formulas, written down another time.
func TestBoundsByRules(t *testing.T) {
	n := &numbers{state: 10}
	for range 6000 {
		g := n.graph(n.between(1, 12))
		if n.between(0, 2) == 0 {
			g = n.wilder(g)
		}
		l, h, e := recipe.Bounds(g)
		want := boundsAgain(g)
		if e != api.OK || len(l) != len(want) || len(h) != len(want) {
			t.Fatalf("Bounds of %v: %v to %v, error %d", g, l, h, e)
		}
		for i, s := range want {
			if !sameBits(l[i], s.low) || !sameBits(h[i], s.high) {
				t.Fatalf("Bounds of %d in %v: %v to %v, want %v to %v", i, g, l[i], h[i], s.low, s.high)
			}
		}
	}
}

// wilder has heights of any size where they are right.
func (n *numbers) wilder(g api.Graph) api.Graph {
	for i, node := range g.Nodes {
		switch node.Op {
		case "const", "scale", "stamp", "fault", "fold", "kernel":
			for k := range node.Reals {
				g.Nodes[i].Reals[k] = pickOf(n, n.height(), n.height(), top, -top, n.single())
			}
		}
	}
	return g
}

// P147: all values of a node lie between its bounds, whatever the region is.
func TestValuesAreInBounds(t *testing.T) {
	n := &numbers{state: 11}
	right := 0
	for k := range 3000 {
		g := n.graph(n.between(1, 12))
		if k%3 == 0 {
			g = n.wilder(g)
		}
		l, h, e := recipe.Bounds(g)
		wantError(t, "Bounds", e, api.OK)
		fields, e := recipe.All(g, n.region(9))
		if e != api.OK {
			continue
		}
		right++
		for i, f := range fields {
			for _, v := range f.V {
				if v < l[i] || v > h[i] {
					t.Fatalf("%v of %d in %v is not from %v to %v", v, i, g, l[i], h[i])
				}
			}
		}
	}
	if right < 1500 {
		t.Error("too few are without errors:", right)
	}
}

// P147: bounds are heights, the lower one at most the upper one.
func TestBoundsAreInOrder(t *testing.T) {
	n := &numbers{state: 12}
	for range 3000 {
		g := n.wilder(n.graph(n.between(1, 30)))
		l, h, e := recipe.Bounds(g)
		wantError(t, "Bounds", e, api.OK)
		for i := range l {
			if !(l[i] >= -top && l[i] <= h[i] && h[i] <= top) {
				t.Fatalf("Bounds of %d in %v: %v to %v", i, g, l[i], h[i])
			}
		}
	}
}
