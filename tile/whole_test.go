package tile_test

import (
	"slices"
	"testing"

	"tarnfell/api"
	"tarnfell/recipe"
	"tarnfell/tile"
)

// recipes have steps of all Ops.
func recipes(t *testing.T) []api.Recipe {
	t.Helper()
	var l []api.Recipe
	for _, text := range []string{
		"a = const 3/out a",
		"a = noise 1 7 16 3 0.5/b = scale a 9 1/c = terrace b 0.5 0.25/d = dither c 4 0.25/out d",
		"a = noise 3 7 9 2 0.5/b = noise 4 8 24 3 0.5/w = speckle 3 0.5/soft = blur w 2/c = blend a b soft/d = sub c a/e = add d b/out e",
		"a = noise 2 1 12 2 0.6/b = stamp a 3 4 5 9 6/c = fault b 3 -1 4 6 5/d = fold c 1 2 40 3/e = thermal d 3 0.5 0.125/f = smooth e 2/out f",
		"a = noise 2 5 8 1 1/b = scale a 12 0/s = slope b/c = curve b/l = shade b -1 -1 2/d = mul s l/e = more d c/f = less e b/g = clamp f -3 3/out g",
		"a = noise 1 9 10 2 0.5/b = warp a 1 9 12 2 0.5 5/k = kernel b 3 1 2 1 2 4 2 1 2 1/v = select k -1 2 0.5/o = over a b/p = shift o -3 2/two = const 2/q = div v two/r = add q p/out r",
	} {
		l = append(l, read(t, text))
	}
	return l
}

// plainly is a recipe read word by word, with edits applied at once.
func plainly(r api.Recipe, l []api.Edit, at api.Region) (api.Field, api.Errno) {
	f, e := recipe.Plain(r, grown(at, softens(l)))
	if e != api.OK {
		return api.Field{}, e
	}
	return tile.Apply(f, l)
}

// P260: a recipe that is printed, read, compiled, and built in tiles with edits is the recipe word by word, with the edits at once.
func TestWholeWay(t *testing.T) {
	n := &numbers{state: 30}
	right := 0
	for range 40 {
		for _, r := range recipes(t) {
			at := n.region(16)
			l := n.edits(at, n.between(0, 7), 8)
			want, wantE := plainly(r, l, at)
			text, e := recipe.Print(r)
			wantError(t, "Print", e, api.OK)
			back, _, e := recipe.Parse(text)
			wantError(t, "Parse", e, api.OK)
			g, e := recipe.Compile(back)
			wantError(t, "Compile", e, api.OK)
			w := newWorld(t, g, at, n.between(2, 20))
			edit(t, w, l...)
			_, e = w.Build(n.between(1, 64))
			f, e2 := w.Join()
			wantError(t, "Join, then Build", e2, e)
			if e == api.OK && wantE == api.OK {
				right++
				wantField(t, "Join", f, e, want)
			}
			if e != api.OK && wantE == api.OK {
				t.Errorf("Build of %q with %v: error %d", text, l, e)
			}
		}
	}
	if right < 100 {
		t.Error("too few are right:", right)
	}
}

// wander does and undoes other edits ahead of and between those that stand in the end.
func wander(t *testing.T, n *numbers, w *tile.World, r api.Region, l []api.Edit) {
	t.Helper()
	for _, e := range l {
		for range n.between(0, 3) {
			edit(t, w, n.edit(r, 9))
			w.Build(n.between(1, 64))
			wantError(t, "Undo", w.Undo(), api.OK)
		}
		edit(t, w, e)
		if n.between(0, 1) == 0 {
			w.Tile(0)
			wantError(t, "Undo", w.Undo(), api.OK)
			wantError(t, "Redo", w.Redo(), api.OK)
			w.Forget(n.between(0, 5))
		}
	}
}

// P261: worlds with other tiles, other workers and other histories are the same, if the same edits stand.
func TestHistories(t *testing.T) {
	n := &numbers{state: 31}
	right := 0
	for range 60 {
		g := hills(t)
		r := n.region(18)
		l := n.edits(r, n.between(1, 6), 8)
		a := newWorld(t, g, r, n.between(2, 20))
		b := newWorld(t, g, r, n.between(2, 20))
		edit(t, a, l...)
		wander(t, n, b, r, l)
		wantEdits(t, "the other history", b.Edits(), l)
		f, e := a.Join()
		h, e2 := b.Join()
		if e == api.OK && e2 == api.OK {
			right++
			wantField(t, "Join of the other world", h, e2, f)
		}
	}
	if right < 20 {
		t.Error("too few are right:", right)
	}
}

// P262: a world that is made anew of a journal has the same keys and edits, and is the same.
func TestWorldAnew(t *testing.T) {
	n := &numbers{state: 32}
	for range 60 {
		g := hills(t)
		r, side := n.region(18), n.between(2, 20)
		w := newWorld(t, g, r, side)
		wander(t, n, w, r, n.edits(r, n.between(1, 6), 8))
		x, _, e := tile.Replay(g, r, side, w.Journal())
		wantError(t, "Replay", e, api.OK)
		wantEdits(t, "Replay", x.Edits(), w.Edits())
		if !slices.Equal(keysOf(t, x), keysOf(t, w)) || x.Journal() != w.Journal() {
			t.Error("Replay has other keys, or another journal")
		}
		f, e := w.Join()
		h, e2 := x.Join()
		wantResult(t, "Join of the world anew", h, e2, f, e)
	}
}

// P180: what workers do together is the same every time.
func TestManyWorkers(t *testing.T) {
	n := &numbers{state: 33}
	g := hills(t)
	r := region(-20, -10, 64, 64)
	w := newWorld(t, g, r, 2)
	edit(t, w, level(2, 3, 3, 20, 5), soften(3, 10, 10, 15), raise(1, 0, 0, 9, -3), soften(1, 20, 30, 9))
	want, wantE := wholeOf(g, w.Edits(), r)
	wantError(t, "wholeOf", wantE, api.OK)
	for range 20 {
		build(t, w, n.between(1, 64), 1024)
		f, e := w.Join()
		wantField(t, "Join", f, e, want)
		w.Forget(0)
	}
	wantCounts(t, "all", w, 20*1024, 0)
}
