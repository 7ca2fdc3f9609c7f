package tile

import (
	"slices"

	"tarnfell/api"
	"tarnfell/field"
	"tarnfell/recipe"
)

// maxSoftens is how many EditSoften may stand; New leaves as much of the margin to them.
const maxSoftens = 50

// World is described in doc/08-tile.md.
type World struct {
	graph        api.Graph
	region       api.Region
	tiles        []api.Region
	done, undone []api.Edit
	journal      []byte
	digest       string // of the last line of the journal
	kept         map[string]asked
	asks         int // how many there were, which tells what was asked for longest ago
	made         int
}

// asked is a field that is kept, and when it was asked for.
type asked struct {
	field api.Field
	at    int
}

// New is described in doc/08-tile.md, P178.
func New(g api.Graph, r api.Region, side int) (*World, api.Errno) {
	margin, e := recipe.Margin(g)
	if e != api.OK {
		return nil, e
	}
	tiles, e := Tiles(r, side)
	if e != api.OK {
		return nil, e
	}
	if margin > api.MaxMargin-maxSoftens {
		return nil, api.ErrRange
	}
	return &World{graph: cloned(g), region: r, tiles: tiles, kept: map[string]asked{}}, api.OK
}

func cloned(g api.Graph) api.Graph {
	g.Nodes = slices.Clone(g.Nodes)
	for i, n := range g.Nodes {
		g.Nodes[i] = api.Node{Op: n.Op, In: slices.Clone(n.In), Ints: slices.Clone(n.Ints), Reals: slices.Clone(n.Reals)}
	}
	return g
}

// Edit is described in doc/08-tile.md, P178.
func (w *World) Edit(e api.Edit) api.Errno {
	line, bad := PrintEdit(e)
	if bad != api.OK {
		return bad
	}
	if len(w.done) == api.MaxEdits || e.Kind == api.EditSoften && softens(w.done) == maxSoftens {
		return api.ErrFull
	}
	w.done = append(w.done, e)
	w.undone = nil
	w.note(line)
	return api.OK
}

// Undo is described in doc/08-tile.md, P178.
func (w *World) Undo() api.Errno {
	return w.move(&w.done, &w.undone, undoWord)
}

// Redo is described in doc/08-tile.md, P178.
func (w *World) Redo() api.Errno {
	return w.move(&w.undone, &w.done, redoWord)
}

// move takes the last edit of a list to the end of another one.
func (w *World) move(from, to *[]api.Edit, word string) api.Errno {
	last := len(*from) - 1
	if last < 0 {
		return api.ErrEmpty
	}
	*to = append(*to, (*from)[last])
	*from = (*from)[:last]
	w.note(word)
	return api.OK
}

// Edits is described in doc/08-tile.md, P178.
func (w *World) Edits() []api.Edit { return slices.Clone(w.done) }

// Made is described in doc/08-tile.md, P180.
func (w *World) Made() int { return w.made }

// Kept is described in doc/08-tile.md, P180.
func (w *World) Kept() int { return len(w.kept) }

// checkTile asks whether there is such a tile.
func (w *World) checkTile(k int) api.Errno {
	if !field.Within(k, 0, len(w.tiles)-1) {
		return api.ErrNone
	}
	return api.OK
}
