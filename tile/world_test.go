package tile_test

import (
	"math"
	"runtime"
	"slices"
	"strings"
	"testing"
	"time"

	"tarnfell/api"
	"tarnfell/recipe"
	"tarnfell/tile"
)

// P178: the errors of New, in their order.
func TestNewErrors(t *testing.T) {
	at := region(0, 0, 4, 4)
	for _, s := range []struct {
		what string
		g    api.Graph
		r    api.Region
		side int
		want api.Errno
	}{
		{"no graph", api.Graph{}, region(0, 0, 0, 0), 0, api.ErrEmpty},
		{"a wrong node", api.Graph{Nodes: []api.Node{{Op: "x"}}}, region(0, 0, 0, 0), 0, api.ErrKind},
		{"a wrong In", api.Graph{Nodes: []api.Node{{Op: "slope", In: []int{0}}}}, at, 2, api.ErrName},
		{"a wrong Out", api.Graph{Nodes: flatGraph(1).Nodes, Out: -1}, at, 2, api.ErrName},
		{"too many nodes", api.Graph{Nodes: slices.Repeat(flatGraph(1).Nodes, 201)}, at, 0, api.ErrLarge},
		{"no region", smoothGraph(1, 151), region(0, 0, 513, 1), 0, api.ErrRange},
		{"too large a region", smoothGraph(1, 151), region(0, 0, 512, 512), 0, api.ErrLarge},
		{"a region that is not there", smoothGraph(1, 151), region(far, 0, 1, 1), 0, api.ErrPlace},
		{"no side", smoothGraph(1, 151), region(0, 0, 256, 256), 0, api.ErrRange},
		{"too great a side", flatGraph(1), region(0, 0, 256, 256), 257, api.ErrRange},
		{"too many tiles", smoothGraph(1, 151), region(0, 0, 41, 25), 1, api.ErrLarge},
		{"a margin of 151", smoothGraph(1, 151), at, 2, api.ErrRange},
		{"a margin of 300", smoothGraph(1, 300), at, 2, api.ErrRange},
	} {
		w, e := tile.New(s.g, s.r, s.side)
		wantNothing(t, s.what, w != nil, e, s.want)
		w, n, e := tile.Replay(s.g, s.r, s.side, signed("undo", lineOf(soften(1, 0, 0, 1))))
		wantNothing(t, "Replay of "+s.what, w != nil || n != 0, e, s.want)
	}
	newWorld(t, smoothGraph(1, 150), at, 2)
	newWorld(t, flatGraph(1), region(0, 0, 32, 32), 1)
	newWorld(t, flatGraph(1), region(far-256, -far, 256, 256), 256)
}

// P178: a new world has tiles as Tiles has them, no edits, and nothing that is kept.
func TestNew(t *testing.T) {
	n := &numbers{state: 8}
	for range 200 {
		r, side := n.region(9), n.between(1, 9)
		w := newWorld(t, flatGraph(n.value()), r, side)
		tiles, _ := tile.Tiles(r, side)
		var all []int
		for k, part := range tiles {
			all = append(all, k)
			if f, e := w.Tile(k); e != api.OK || f.Region != part {
				t.Errorf("the tile %d of %v, side %d, is %v, error %d; want %v", k, r, side, f.Region, e, part)
			}
		}
		w = newWorld(t, flatGraph(1), r, side)
		wantStale(t, "New", w, all...)
		wantCounts(t, "New", w, 0, 0)
		wantEdits(t, "New", w.Edits(), nil)
		if w.Journal() != "" || len(keysOf(t, w)) != len(all) {
			t.Errorf("New: the journal %q, %d keys, want %d", w.Journal(), len(keysOf(t, w)), len(all))
		}
		wantError(t, "Undo", w.Undo(), api.ErrEmpty)
		wantError(t, "Redo", w.Redo(), api.ErrEmpty)
	}
}

// P178: Undo and Redo go back and forth, and a new edit ends what was undone.
func TestUndoAndRedo(t *testing.T) {
	w := newWorld(t, flatGraph(1), region(0, 0, 4, 4), 2)
	a, b, c, d := raise(1, 0, 0, 1, 1), raise(2, 1, 1, 2, 2), soften(3, 2, 2, 3), set(1, 3, 3, 1, minusZero)
	edit(t, w, a, b, c)
	wantEdits(t, "Edit", w.Edits(), []api.Edit{a, b, c})
	wantError(t, "Redo", w.Redo(), api.ErrEmpty)
	wantError(t, "Undo", w.Undo(), api.OK)
	wantError(t, "Undo", w.Undo(), api.OK)
	wantEdits(t, "Undo twice", w.Edits(), []api.Edit{a})
	wantError(t, "Redo", w.Redo(), api.OK)
	wantEdits(t, "Redo", w.Edits(), []api.Edit{a, b})
	// A wrong edit ends nothing.
	wantError(t, "a wrong edit", w.Edit(api.Edit{Kind: 7}), api.ErrKind)
	wantError(t, "Redo", w.Redo(), api.OK)
	wantEdits(t, "Redo twice", w.Edits(), []api.Edit{a, b, c})
	wantError(t, "Redo", w.Redo(), api.ErrEmpty)
	wantError(t, "Undo", w.Undo(), api.OK)
	wantError(t, "Undo", w.Undo(), api.OK)
	edit(t, w, d)
	wantEdits(t, "a new edit", w.Edits(), []api.Edit{a, d})
	wantError(t, "Redo behind an edit", w.Redo(), api.ErrEmpty)
	for range 2 {
		wantError(t, "Undo", w.Undo(), api.OK)
	}
	wantError(t, "Undo", w.Undo(), api.ErrEmpty)
	wantEdits(t, "Undo of all", w.Edits(), nil)
	wantError(t, "Redo", w.Redo(), api.OK)
	wantError(t, "Redo", w.Redo(), api.OK)
	wantEdits(t, "Redo of all", w.Edits(), []api.Edit{a, d})
	// Equal edits are edits of their own.
	edit(t, w, d, d)
	wantError(t, "Undo", w.Undo(), api.OK)
	wantEdits(t, "equal edits", w.Edits(), []api.Edit{a, d, d})
}

// P178: Edit has CheckEdit's errors, and leaves the world as it was.
func TestEditErrors(t *testing.T) {
	w := newWorld(t, flatGraph(1), region(0, 0, 4, 4), 2)
	a, b := raise(1, 0, 0, 1, 1), set(1, 3, 3, 1, 2)
	edit(t, w, a, b)
	wantError(t, "Undo", w.Undo(), api.OK)
	build(t, w, 2, 4)
	journal := w.Journal()
	for _, s := range badEdits() {
		wantError(t, "Edit", w.Edit(s.e), s.want)
	}
	if w.Journal() != journal {
		t.Error("a wrong edit is in the journal:", w.Journal())
	}
	wantEdits(t, "wrong edits", w.Edits(), []api.Edit{a})
	wantStale(t, "wrong edits", w)
	wantCounts(t, "wrong edits", w, 4, 4)
	wantError(t, "Redo", w.Redo(), api.OK)
	for _, e := range rightEdits()[:400] {
		wantError(t, "Edit", newWorld(t, flatGraph(1), region(0, 0, 1, 1), 1).Edit(e), api.OK)
	}
}

// P178: MaxEdits edits may stand, and 50 EditSoften among them; those that were undone do not count.
func TestFull(t *testing.T) {
	w := newWorld(t, flatGraph(1), region(0, 0, 4, 4), 2)
	a, s := raise(1, 0, 0, 1, 1), soften(1, 0, 0, 1)
	for range 50 {
		edit(t, w, s, a)
	}
	wantError(t, "EditSoften number 51", w.Edit(s), api.ErrFull)
	wantError(t, "Undo", w.Undo(), api.OK)
	wantError(t, "EditSoften number 51", w.Edit(s), api.ErrFull)
	wantError(t, "Redo behind an edit with an error", w.Redo(), api.OK)
	wantError(t, "Undo", w.Undo(), api.OK)
	wantError(t, "Undo", w.Undo(), api.OK)
	edit(t, w, s, a)
	for range 400 {
		edit(t, w, a)
	}
	wantError(t, "edit number 501", w.Edit(a), api.ErrFull)
	wantError(t, "EditSoften number 51", w.Edit(s), api.ErrFull)
	wantError(t, "a wrong edit", w.Edit(api.Edit{}), api.ErrKind)
	lines := strings.Count(w.Journal(), "\n")
	if lines != 506 || len(w.Edits()) != 500 {
		t.Error("lines", lines, "edits", len(w.Edits()))
	}
	wantError(t, "Undo", w.Undo(), api.OK)
	wantError(t, "EditSoften number 51", w.Edit(s), api.ErrFull)
	edit(t, w, a)
	wantError(t, "edit number 501", w.Edit(a), api.ErrFull)
	for range 500 {
		wantError(t, "Undo", w.Undo(), api.OK)
	}
	for range 500 {
		wantError(t, "Redo", w.Redo(), api.OK)
	}
	wantError(t, "edit number 501", w.Edit(a), api.ErrFull)
	x, n, e := tile.Replay(flatGraph(1), region(0, 0, 4, 4), 2, w.Journal())
	if e != api.OK || n != strings.Count(w.Journal(), "\n") || len(x.Edits()) != 500 {
		t.Error("Replay", n, e)
	}
	w = newWorld(t, flatGraph(1), region(0, 0, 4, 4), 2)
	for range 500 {
		edit(t, w, a)
	}
	wantError(t, "an EditSoften as edit number 501", w.Edit(s), api.ErrFull)
}

// P179: the key is the digest of a text with the graph, the tile, and the edits that touch it.
func TestKey(t *testing.T) {
	g := hills(t)
	w := newWorld(t, g, region(-3, 2, 9, 6), 4)
	ofGraph, _ := recipe.Key(g)
	want := func(k int, text string) {
		t.Helper()
		if key, e := w.Key(k); key != digestOf(ofGraph+"\n"+text) || e != api.OK {
			t.Errorf("Key of %d: %s, error %d; want the digest of %q", k, key, e, text)
		}
	}
	want(0, "-3 2 3 2\n")
	want(1, "0 2 4 2\n")
	want(5, "4 4 2 4\n")
	a, b, c := raise(api.BrushCone, 1, 3, 1, -0.5), soften(api.BrushFlat, -3, 2, 1), set(api.BrushBell, 4, 5, 2, minusZero)
	edit(t, w, a)
	want(0, "-3 2 3 2\n")
	want(1, "0 2 4 2\nraise cone 1 3 1 bf000000 00000000\n")
	want(4, "0 4 4 4\n")
	edit(t, w, b, c)
	want(0, "-3 2 3 2\nsoften flat -3 2 1 00000000 00000000\n")
	want(1, "0 2 4 2\nraise cone 1 3 1 bf000000 00000000\n")
	want(2, "4 2 2 2\n")
	want(3, "-3 4 3 4\n")
	want(4, "0 4 4 4\nraise cone 1 3 1 bf000000 00000000\nset bell 4 5 2 00000000 80000000\n")
	want(5, "4 4 2 4\nset bell 4 5 2 00000000 80000000\n")
	for _, k := range []int{-1, 6, 7, math.MaxInt, math.MinInt} {
		key, e := w.Key(k)
		wantNothing(t, "Key", key != "", e, api.ErrNone)
	}
}

// P179: keys of other graphs and other parts differ; those of worlds with other tiles are the same where the parts are.
func TestKeysOfWorlds(t *testing.T) {
	r := region(0, 0, 8, 8)
	a := keysOf(t, newWorld(t, flatGraph(1), r, 4))
	for _, w := range []*tile.World{newWorld(t, flatGraph(2), r, 4), newWorld(t, flatGraph(1), region(8, 0, 8, 8), 4), newWorld(t, flatGraph(1), r, 2), newWorld(t, flatGraph(1), r, 8)} {
		for _, key := range keysOf(t, w) {
			if slices.Contains(a, key) {
				t.Error("an equal key", key)
			}
		}
	}
	if b := keysOf(t, newWorld(t, flatGraph(1), region(-4, 0, 8, 8), 4)); b[1] != a[0] || b[3] != a[2] {
		t.Error("other keys of the same parts:", a, b)
	}
	seen := map[string]bool{}
	for _, key := range a {
		if len(key) != 16 || strings.Trim(key, "0123456789abcdef") != "" || seen[key] {
			t.Error("the key", key)
		}
		seen[key] = true
	}
}

// P179, P180: an edit makes no tile stale but those that its Reach touches, and those that an earlier one touches only with it; after Undo all that was kept is kept still.
func TestStale(t *testing.T) {
	n := &numbers{state: 9}
	for range 300 {
		r, side := n.region(20), n.between(2, 7)
		w := newWorld(t, flatGraph(1), r, side)
		edit(t, w, n.edits(r, n.between(0, 5), 5)...)
		tiles := tilesOf(r, side)
		w.Build(4)
		stale := w.Stale()
		before, keys := w.Edits(), keysOf(t, w)
		next := n.edit(r, 5)
		edit(t, w, next)
		after := w.Edits()
		var want []int
		for k, part := range tiles {
			touched := touches(reachOf(after, len(before)), part)
			for i := range before {
				touched = touched || touches(reachOf(after, i), part) && !touches(reachOf(before, i), part)
			}
			if touched || slices.Contains(stale, k) {
				want = append(want, k)
			}
			if key, _ := w.Key(k); (key != keys[k]) != touched {
				t.Errorf("the key of %v becomes %s with %v behind %v", part, key, next, before)
			}
		}
		wantStale(t, "Edit", w, want...)
		w.Build(4)
		wantError(t, "Undo", w.Undo(), api.OK)
		wantStale(t, "Undo", w, stale...)
		if !slices.Equal(keysOf(t, w), keys) {
			t.Error("Undo leaves other keys")
		}
	}
}

// P180: Tile makes what is not kept, and only that.
func TestTileOfWorld(t *testing.T) {
	g := hills(t)
	r := region(-5, 3, 10, 7)
	w := newWorld(t, g, r, 4)
	want, wantE := wholeOf(g, nil, region(-4, 4, 4, 4))
	wantError(t, "wholeOf", wantE, api.OK)
	for range 2 {
		f, e := w.Tile(5)
		wantField(t, "Tile", f, e, want)
		wantCounts(t, "Tile", w, 1, 1)
		wantStale(t, "Tile", w, 0, 1, 2, 3, 4, 6, 7, 8, 9, 10, 11)
	}
	edit(t, w, raise(1, -4, 4, 1, 9))
	f, e := w.Tile(5)
	want.V[0] = plus(want.V[0], 9)
	wantField(t, "Tile with an edit", f, e, want)
	wantCounts(t, "Tile with an edit", w, 2, 2)
	wantError(t, "Undo", w.Undo(), api.OK)
	wantError(t, "Redo", w.Redo(), api.OK)
	f, e = w.Tile(5)
	wantField(t, "Tile behind Undo and Redo", f, e, want)
	wantCounts(t, "Tile behind Undo and Redo", w, 2, 2)
	for _, k := range []int{-1, 12, math.MaxInt, math.MinInt} {
		f, e := w.Tile(k)
		wantNothing(t, "Tile", isSome(f), e, api.ErrNone)
	}
	wantCounts(t, "tiles that are not there", w, 2, 2)
}

// P180: a tile that has an error is not kept and not made; the others are.
func TestErrorsOfTiles(t *testing.T) {
	// Tiles of 4 * 4 cells; the island has the tiles number 0, 1, 3 and 4 of 9.
	w := newWorld(t, island(3, 3, 7), region(0, 0, 12, 12), 4)
	bad := []int{2, 5, 6, 7, 8}
	for range 2 {
		for _, k := range bad {
			f, e := w.Tile(k)
			wantNothing(t, "Tile without values", isSome(f), e, api.ErrRange)
		}
		wantCounts(t, "tiles with errors", w, 0, 0)
	}
	f, e := w.Join()
	wantNothing(t, "Join", isSome(f), e, api.ErrRange)
	wantCounts(t, "Join with an error", w, 0, 0)
	if n, e := w.Build(2); n != 4 || e != api.ErrRange {
		t.Error("Build with errors", n, e)
	}
	wantCounts(t, "Build with errors", w, 4, 4)
	wantStale(t, "Build with errors", w, bad...)
	if n, e := w.Build(2); n != 0 || e != api.ErrRange {
		t.Error("Build with errors again", n, e)
	}
	f, e = w.Tile(3)
	wantField(t, "Tile with values", f, e, flatField(region(0, 4, 4, 4), 1))
	wantCounts(t, "all", w, 4, 4)
}

// P180: of several errors of tiles that of the least number is returned, by Build and by Join.
func TestFirstErrorOfTiles(t *testing.T) {
	up := []api.Edit{raise(1, far-1, 1, 1, top), raise(1, far-1, 1, 1, top)}
	for _, s := range []struct {
		l    []api.Edit
		want api.Errno
		made int
	}{
		// The tiles number 1 and 3 lie at the end of all places, so that there is no room for an EditSoften there.
		{[]api.Edit{soften(1, far-1, 3, 1)}, api.ErrPlace, 3},
		{[]api.Edit{raise(1, far-4, 1, 1, top), raise(1, far-4, 1, 1, top), soften(1, far-1, 1, 1)}, api.ErrRange, 2},
		{[]api.Edit{soften(1, far-1, 1, 1), raise(1, far-4, 3, 1, top), raise(1, far-4, 3, 1, top)}, api.ErrPlace, 2},
		{append(slices.Clone(up), soften(1, far-4, 3, 1)), api.ErrRange, 3},
		{append(slices.Clone(up), soften(1, far-1, 3, 1)), api.ErrRange, 2},
	} {
		for workers := 1; workers <= 64; workers += 9 {
			w := newWorld(t, flatGraph(1), region(far-4, 0, 4, 4), 2)
			edit(t, w, s.l...)
			f, e := w.Join()
			wantNothing(t, "Join", isSome(f), e, s.want)
			if n, e := w.Build(workers); n != s.made || e != s.want {
				t.Errorf("Build with %v: made %d, error %d; want %d, %d", s.l, n, e, s.made, s.want)
			}
			wantCounts(t, "Build", w, s.made, s.made)
		}
	}
}

// P180: Build makes what is stale, and nothing else.
func TestBuild(t *testing.T) {
	n := &numbers{state: 10}
	g := hills(t)
	for workers := 1; workers <= 64; workers++ {
		r := n.region(20)
		w := newWorld(t, g, r, 5)
		tiles := tilesOf(r, 5)
		edit(t, w, n.edits(r, 3, 9)...)
		w.Tile(0)
		want := 0
		for k := range tiles {
			if _, e := wholeOf(g, w.Edits(), tiles[k]); e == api.OK {
				want++
			}
		}
		if want < len(tiles) {
			continue
		}
		build(t, w, workers, want-1)
		wantStale(t, "Build", w)
		wantCounts(t, "Build", w, want, want)
		build(t, w, workers, 0)
		wantCounts(t, "Build again", w, want, want)
		f, e := w.Join()
		whole, _ := wholeOf(g, w.Edits(), r)
		wantField(t, "Join", f, e, whole)
		wantCounts(t, "Join", w, want, want)
	}
	for _, workers := range []int{0, -1, 65, 1 << 32, math.MaxInt, math.MinInt} {
		w := newWorld(t, flatGraph(1), region(0, 0, 4, 4), 2)
		n, e := w.Build(workers)
		wantNothing(t, "Build", n != 0, e, api.ErrRange)
		wantCounts(t, "Build with an error", w, 0, 0)
		// It comes ahead of the errors of tiles.
		w = newWorld(t, flatGraph(1), region(far-4, 0, 4, 4), 2)
		edit(t, w, soften(1, far-1, 0, 1))
		n, e = w.Build(workers)
		wantNothing(t, "Build", n != 0, e, api.ErrRange)
		if n, e = w.Build(64); n != 3 || e != api.ErrPlace {
			t.Error("Build", n, e)
		}
	}
}

// P180: fields are dropped in the order in which they were asked for; Build asks by numbers, and asking for what is kept counts.
func TestForget(t *testing.T) {
	w := newWorld(t, flatGraph(1), region(0, 0, 12, 2), 2)
	forget := func(most, want int, stale ...int) {
		t.Helper()
		if n, e := w.Forget(most); n != want || e != api.OK {
			t.Errorf("Forget: %d, error %d; want %d", n, e, want)
		}
		wantStale(t, "Forget", w, stale...)
	}
	forget(0, 0, 0, 1, 2, 3, 4, 5)
	build(t, w, 3, 6)
	forget(6, 0)
	forget(math.MaxInt, 0)
	forget(5, 1, 0)
	w.Tile(2)
	w.Tile(1)
	forget(3, 2, 0, 3, 4)
	wantCounts(t, "Forget", w, 6, 3)
	w.Tile(4)
	forget(2, 2, 0, 2, 3, 5)
	// The order is now 1, 4; Build asks for all, by their numbers.
	build(t, w, 64, 4)
	forget(3, 3, 0, 1, 2)
	w.Tile(3)
	if _, e := w.Join(); e != api.OK {
		t.Error("Join", e)
	}
	wantCounts(t, "Join", w, 14, 6)
	forget(4, 2, 0, 1)
	for _, most := range []int{-1, math.MinInt} {
		n, e := w.Forget(most)
		wantNothing(t, "Forget", n != 0, e, api.ErrRange)
	}
	wantStale(t, "Forget with an error", w, 0, 1)
	// Key, Stale, and an Edit that is undone ask for nothing.
	w.Tile(2)
	keysOf(t, w)
	w.Stale()
	edit(t, w, raise(1, 3, 0, 1, 1))
	wantError(t, "Undo", w.Undo(), api.OK)
	forget(1, 3, 0, 1, 3, 4, 5)
	forget(0, 1, 0, 1, 2, 3, 4, 5)
	wantCounts(t, "Forget", w, 14, 0)
}

// P180: a Join with an error asks for nothing, a Tile with an error neither, and a Build with an error for all others.
func TestAskingWithErrors(t *testing.T) {
	w := newWorld(t, flatGraph(1), region(0, 0, 12, 2), 2)
	build(t, w, 3, 6)
	w.Tile(0)
	edit(t, w, raise(1, 6, 0, 1, top), raise(1, 1, 1, 1, 3))
	// Asked for were the tiles 1, 2, 3, 4, 5, 0; now 0 and 3 are others, and 3 has an error.
	if _, e := w.Join(); e != api.ErrRange {
		t.Error("Join", e)
	}
	if _, e := w.Tile(3); e != api.ErrRange {
		t.Error("Tile", e)
	}
	wantStale(t, "Join with an error", w, 0, 3)
	wantCounts(t, "Join with an error", w, 6, 6)
	w.Tile(1)
	w.Forget(5)
	wantStale(t, "Forget", w, 0, 2, 3)
	if n, e := w.Build(5); n != 2 || e != api.ErrRange {
		t.Error("Build", n, e)
	}
	// Asked for were 3 and 0 without edits, then 0, 1, 2, 4, 5.
	wantCounts(t, "Build with an error", w, 8, 7)
	w.Forget(4)
	wantStale(t, "Forget", w, 0, 3)
	wantError(t, "Undo", w.Undo(), api.OK)
	wantError(t, "Undo", w.Undo(), api.OK)
	wantStale(t, "Undo", w, 0, 3)
}

// P180: Join is Whole of the region, for every side and every number of workers.
func TestJoin(t *testing.T) {
	n := &numbers{state: 11}
	graphs := []api.Graph{hills(t), flatGraph(minusZero), graphOf(t, "a = speckle 3 0.5/b = scale a 5 1/c = shift b 3 -2/d = blur c 1/out d")}
	right := 0
	for range 150 {
		g, r, side := pickOf(n, graphs...), n.region(20), n.between(2, 24)
		w := newWorld(t, g, r, side)
		edit(t, w, n.edits(r, n.between(0, 9), 9)...)
		want, wantE := tile.Whole(g, w.Edits(), r)
		if n.between(0, 1) == 0 {
			w.Build(n.between(1, 64))
		}
		f, e := w.Join()
		if e == api.OK && wantE == api.OK {
			right++
			wantField(t, "Join", f, e, want)
		}
		if wantE == api.OK && e != api.OK {
			t.Errorf("Join: error %d, but Whole has none", e)
		}
	}
	if right < 50 {
		t.Error("too few are right:", right)
	}
}

// P175 to P182: whatever is done with a world, all that it tells is what the rules say.
func TestModel(t *testing.T) {
	n := &numbers{state: 12}
	small := graphOf(t, "a = noise 2 7 8 2 0.5/b = scale a 20 1/c = smooth b 1/out c")
	for _, s := range []struct {
		g api.Graph
		r api.Region
	}{
		{small, region(-7, 3, 11, 9)}, {island(3, 4, 9), region(-4, -2, 14, 12)}, {flatGraph(top), region(0, 0, 9, 9)}, {small, region(far-9, -far, 9, 8)}, {flatGraph(minusZero), region(far-7, far-9, 7, 9)},
	} {
		for range 12 {
			side := n.between(2, 9)
			w, m := newWorld(t, s.g, s.r, side), newModel(s.g, s.r, side)
			for range 60 {
				act(t, n, w, m)
				wantCounts(t, "all", w, m.made, len(m.kept))
			}
			wantStale(t, "all", w, m.stale()...)
			wantEdits(t, "all", w.Edits(), m.done)
			if w.Journal() != m.journal() {
				t.Errorf("the journal is %q, want %q", w.Journal(), m.journal())
			}
		}
	}
}

// act does the same thing with a world and with its model.
func act(t *testing.T, n *numbers, w *tile.World, m *model) {
	t.Helper()
	k := n.between(0, len(m.tiles)-1)
	switch n.between(0, 11) {
	case 0, 1, 2:
		e := n.edit(m.r, 4)
		e.Brush.X, e.Brush.Y = min(max(e.Brush.X, -far), far), min(max(e.Brush.Y, -far), far)
		wantError(t, "Edit", w.Edit(e), m.edit(e))
	case 3, 4:
		wantError(t, "Undo", w.Undo(), m.undo())
	case 5:
		wantError(t, "Redo", w.Redo(), m.redo())
	case 6:
		if key, e := w.Key(k); key != m.key(k) || e != api.OK {
			t.Errorf("Key: %s, error %d; want %s", key, e, m.key(k))
		}
	case 7, 8:
		want, _, wantE := m.tile(k)
		f, e := w.Tile(k)
		wantResult(t, "Tile", f, e, want, wantE)
	case 9:
		many, e := w.Build(n.between(1, 64))
		if want, wantE := m.build(); many != want || e != wantE {
			t.Errorf("Build: %d, error %d; want %d, %d", many, e, want, wantE)
		}
	case 10:
		want, wantE := m.join()
		f, e := w.Join()
		wantResult(t, "Join", f, e, want, wantE)
	case 11:
		most := n.between(0, 2*len(m.tiles))
		if many, e := w.Forget(most); many != m.forget(most) || e != api.OK {
			t.Errorf("Forget(%d): %d, error %d", most, many, e)
		}
	}
}

// P180: the most tiles with the most edits, by the most workers, do not take long.
func TestLargestWorld(t *testing.T) {
	g := hills(t)
	r := region(-100, 30, 240, 240)
	w := newWorld(t, g, r, 8)
	n := &numbers{state: 13}
	for range 500 {
		e := n.edit(r, 60)
		if e.Kind == api.EditSoften && softens(w.Edits()) >= 5 || e.Kind == api.EditRaise {
			e = level(1, e.Brush.X, e.Brush.Y, e.Brush.Radius, n.single())
		}
		edit(t, w, e)
	}
	build(t, w, 64, len(tilesOf(r, 8)))
	f, e := w.Join()
	want, _ := tile.Whole(g, w.Edits(), r)
	wantField(t, "Join", f, e, want)
}

// G1: the goroutines of a Build have ended behind it.
func TestGoroutinesEnd(t *testing.T) {
	before := runtime.NumGoroutine()
	for _, g := range []api.Graph{flatGraph(1), island(0, 0, 2)} {
		w := newWorld(t, g, region(0, 0, 9, 9), 2)
		for _, workers := range []int{1, 2, 64} {
			w.Build(workers)
			w.Forget(0)
			w.Join()
		}
	}
	for range 1000 {
		if runtime.NumGoroutine() <= before {
			return
		}
		time.Sleep(time.Millisecond)
	}
	t.Error("goroutines are left:", runtime.NumGoroutine()-before)
}
