package tile_test

import (
	"math"
	"slices"
	"strings"
	"testing"

	"tarnfell/api"
	"tarnfell/tile"
)

func fill[T any](l []T, v T) {
	l = l[:cap(l)]
	for i := range l {
		l[i] = v
	}
}

// roomy has slices with room behind them, in which something stands.
func roomy[T any](l []T, v T) []T { return append(slices.Clone(l), v, v)[:len(l)] }

func room[T any](l []T) []T { return l[len(l) : len(l)+2] }

// G2: Apply and Whole leave their arguments, and the room behind them, alone; results are new memory.
func TestArgumentsAreLeftAlone(t *testing.T) {
	n := &numbers{state: 40}
	g := hills(t)
	other := api.Edit{Kind: 77}
	for range 300 {
		r := n.region(9)
		l := n.edits(r, n.between(0, 6), 8)
		f := n.field(grown(r, softens(l)))
		roomyF, roomyL := api.Field{Region: f.Region, V: roomy(f.V, 77)}, roomy(l, other)
		h, e := tile.Apply(roomyF, roomyL)
		whole, e2 := tile.Whole(g, roomyL, r)
		tile.Margin(roomyL)
		tile.Reach(roomyL, 0)
		wantField(t, "the field of Apply", roomyF, api.OK, f)
		wantEdits(t, "the edits of all", roomyL, l)
		if !sameSingles(room(roomyF.V), []float32{77, 77}) || !slices.EqualFunc(room(roomyL), []api.Edit{other, other}, sameEdit) {
			t.Error("something is written behind the arguments")
		}
		keptH, keptWhole := copyOf(h), copyOf(whole)
		fill(roomyF.V, 5)
		fill(roomyL, other)
		wantResult(t, "Apply, when its arguments are written over", h, e, keptH, e)
		wantResult(t, "Whole, when its arguments are written over", whole, e2, keptWhole, e2)
		again, e := tile.Apply(f, l)
		wantResult(t, "Apply again", again, e, keptH, e)
		fill(again.V, 5)
		wantResult(t, "Apply, when another result is written over", h, e, keptH, e)
	}
}

// G2: a world keeps no graph of others, and its results are its own.
func TestWorldIsAlone(t *testing.T) {
	r := region(-3, 4, 9, 7)
	g := hills(t)
	g.Nodes = roomy(g.Nodes, api.Node{Op: "room"})
	for i, node := range g.Nodes {
		g.Nodes[i] = api.Node{Op: node.Op, In: roomy(node.In, 77), Ints: roomy(node.Ints, 77), Reals: roomy(node.Reals, 77)}
	}
	w := newWorld(t, g, r, 4)
	l := []api.Edit{raise(1, 0, 5, 3, 2), soften(2, 1, 6, 4), set(3, 2, 7, 2, -9)}
	edit(t, w, l...)
	w.Build(3)
	same := newWorld(t, hills(t), r, 4)
	edit(t, same, l...)
	want, _ := same.Join()
	x, _, _ := tile.Replay(g, r, 4, w.Journal())
	for i, node := range g.Nodes {
		if !slices.Equal(room(node.In), []int{77, 77}) || !slices.Equal(room(node.Ints), []int{77, 77}) || !sameSingles(room(node.Reals), []float32{77, 77}) {
			t.Error("something is written behind the node", i)
		}
		fill(node.In, -5)
		fill(node.Ints, -5)
		fill(node.Reals, nan)
	}
	fill(g.Nodes, api.Node{Op: "scribble"})
	for range 2 {
		for _, v := range []*tile.World{w, x} {
			f, e := v.Join()
			wantField(t, "Join", f, e, want)
			fill(f.V, 5)
			f, e = v.Tile(1)
			wantField(t, "Tile", f, e, partOf(want, f.Region))
			fill(f.V, 5)
			edits := v.Edits()
			wantEdits(t, "Edits", edits, l)
			fill(edits, api.Edit{Kind: 77})
			v.Forget(4)
			stale := v.Stale()
			if len(stale) == 0 {
				t.Error("nothing is stale")
			}
			fill(stale, -1)
		}
	}
	wantError(t, "Undo", w.Undo(), api.OK)
	edits := w.Edits()
	wantEdits(t, "Undo", edits, l[:2])
	fill(edits, api.Edit{Kind: 77})
	wantError(t, "Redo", w.Redo(), api.OK)
	wantEdits(t, "Redo", w.Edits(), l)
}

// G2: the tiles of two calls share no memory, and worlds know nothing of each other.
func TestListsAreNew(t *testing.T) {
	r := region(0, 0, 4, 4)
	a, _ := tile.Tiles(r, 2)
	fill(a, region(7, 7, 7, 7))
	b, e := tile.Tiles(r, 2)
	if e != api.OK || !slices.Equal(b, tilesOf(r, 2)) {
		t.Error("Tiles", b, e)
	}
	v, w := newWorld(t, flatGraph(1), r, 2), newWorld(t, flatGraph(1), r, 2)
	edit(t, v, raise(1, 0, 0, 1, 1))
	v.Build(2)
	wantStale(t, "another world", w, 0, 1, 2, 3)
	wantCounts(t, "another world", w, 0, 0)
	if w.Journal() != "" || len(w.Edits()) > 0 {
		t.Error("another world has", w.Journal(), w.Edits())
	}
}

// G3: nil and empty slices are the same.
func TestEmptySlices(t *testing.T) {
	r := region(0, 0, 2, 2)
	f := flatField(r, 3)
	for _, l := range [][]api.Edit{nil, {}} {
		g, e := tile.Apply(f, l)
		wantField(t, "Apply", g, e, f)
		g, e = tile.Whole(flatGraph(3), l, r)
		wantField(t, "Whole", g, e, f)
		m, e := tile.Margin(l)
		wantNothing(t, "Margin", m != 0, e, api.OK)
	}
	g := api.Graph{Nodes: []api.Node{{Op: "const", In: []int{}, Ints: []int{}, Reals: []float32{3}}}}
	if a, b := keysOf(t, newWorld(t, g, r, 1)), keysOf(t, newWorld(t, flatGraph(3), r, 1)); !slices.Equal(a, b) {
		t.Error("keys of the same graph:", a, b)
	}
}

var (
	wildInts    = []int{0, 1, -1, 2, 3, 4, 5, 50, 64, 256, 257, 500, far, -far, far + 1, 1 << 32, 1 << 62, math.MaxInt, math.MinInt}
	wildSingles = []float32{0, minusZero, 1, -0.5, tiny, top, -top, beyond, math.MaxFloat32, inf, -inf, nan}
)

// G1, G3, G7: no function panics, whatever an edit is, and results are heights.
func TestWildEdits(t *testing.T) {
	n := &numbers{state: 41}
	f := flatField(region(-2, -2, 5, 5), 1)
	right := 0
	for range 20000 {
		wild := func() api.Edit {
			e := n.edit(f.Region, 4)
			for range n.between(0, 2) {
				switch n.between(0, 6) {
				case 0:
					e.Kind = pickOf(n, wildInts...)
				case 1:
					e.Brush.Kind = pickOf(n, wildInts...)
				case 2:
					e.Brush.X = pickOf(n, wildInts...)
				case 3:
					e.Brush.Y = pickOf(n, wildInts...)
				case 4:
					e.Brush.Radius = pickOf(n, wildInts...)
				case 5:
					e.Brush.Height = pickOf(n, wildSingles...)
				case 6:
					e.Target = pickOf(n, wildSingles...)
				}
			}
			return e
		}
		l := []api.Edit{wild(), wild()}
		want := tile.CheckEdit(l[0])
		if want == api.OK {
			want = tile.CheckEdit(l[1])
		}
		g, e := tile.Apply(f, l)
		if want != api.OK {
			wantNothing(t, "Apply", isSome(g), e, want)
		} else if isSome(g) != (e == api.OK) || e != api.OK && e != api.ErrRange {
			t.Errorf("Apply of %v: %v, error %d", l, g, e)
		} else {
			right++
		}
		for _, v := range g.V {
			if !isHeight(v) {
				t.Errorf("Apply of %v has %v", l, v)
			}
		}
		text, e := tile.PrintEdit(l[0])
		wantError(t, "PrintEdit", e, tile.CheckEdit(l[0]))
		box, e := tile.Box(l[0])
		if e != tile.CheckEdit(l[0]) || (e == api.OK) != (text != "") || (e == api.OK) != (box != api.Region{}) {
			t.Errorf("Box of %v: %v, error %d; PrintEdit %q", l[0], box, e, text)
		}
		if _, e := tile.Reach(l, 0); e != api.OK {
			t.Error("Reach", e)
		}
	}
	if right < 3000 {
		t.Error("too few are right:", right)
	}
}

// G1, G3: no function panics, whatever regions, sides and numbers are.
func TestWildPlaces(t *testing.T) {
	g := smoothGraph(1, 3)
	l := []api.Edit{soften(1, 0, 0, 5), raise(2, 1, 1, 4, 3)}
	w := newWorld(t, g, region(0, 0, 4, 4), 2)
	for _, a := range wildInts {
		for _, b := range wildInts {
			for _, r := range []api.Region{region(a, b, 2, 1), region(0, 0, a, b), region(a, 0, b, 1), region(0, a, 2, b)} {
				f, e := tile.Whole(g, l, r)
				if isSome(f) != (e == api.OK) {
					t.Errorf("Whole of %v: %v, error %d", r, f.Region, e)
				}
				for _, side := range []int{1, a, b} {
					tiles, e := tile.Tiles(r, side)
					x, e2 := tile.New(g, r, side)
					if len(tiles) > 0 != (e == api.OK) || e != e2 || (x != nil) != (e == api.OK) {
						t.Errorf("Tiles of %v, side %d: %v, error %d; New %d", r, side, tiles, e, e2)
					}
				}
			}
			r, e := tile.Tile(8, a, b)
			if (r != api.Region{}) != (e == api.OK) {
				t.Error("Tile", r, e)
			}
		}
		w.Key(a)
		w.Tile(a)
		w.Forget(a)
		w.Build(a)
		tile.Reach(l, a)
	}
	f, e := w.Join()
	wantField(t, "Join", f, e, flatField(region(0, 0, 4, 4), 1))
}

// G1: what is read ends, whatever the text is.
func TestWildTexts(t *testing.T) {
	n := &numbers{state: 42}
	words := []string{"raise", "level", "soften", "set", "flat", "cone", "bell", "0", "1", "-1", "-0", "3", "256", "257", "00000000", "3f800000", "7fc00000", "80000000", "undo", "redo", "", " ", "\n", "\xff", "999999999999999999999"}
	right := 0
	for range 30000 {
		l := []string{pickOf(n, words[:4]...), pickOf(n, words[4:7]...), "1", "-1", pickOf(n, "1", "3", "256"), "00000000", pickOf(n, "00000000", "80000000", "3f800000")}
		for i := range l {
			if n.between(0, 19) == 0 {
				l[i] = pickOf(n, words...)
			}
		}
		text := strings.Join(l, " ")
		e, bad := tile.ParseEdit(text)
		if (e != api.Edit{}) != (bad == api.OK) {
			t.Fatalf("ParseEdit of %q: %v, error %d", text, e, bad)
		}
		if bad == api.OK {
			right++
			back, bad := tile.PrintEdit(e)
			if back != text || bad != api.OK {
				t.Errorf("PrintEdit of %v: %q, error %d; want %q", e, back, bad, text)
			}
		}
		want := 0
		if bad == api.OK {
			want = 1
		}
		if _, many, e := tile.Replay(flatGraph(1), region(0, 0, 2, 2), 2, signed(text)); e != api.OK || many != want {
			t.Fatalf("Replay of %q: %d lines, error %d", text, many, e)
		}
	}
	if right < 5000 {
		t.Error("too few texts are right:", right)
	}
}
