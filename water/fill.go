package water

import (
	"container/heap"
	"slices"

	"tarnfell/api"
	"tarnfell/field"
)

const maxSlope = 1024

// Filled is described in doc/04-water.md, P70.
func Filled(f api.Field, slope float32) (api.Field, api.Errno) {
	if e := field.Check(f); e != api.OK {
		return api.Field{}, e
	}
	if e := field.CheckWithin(slope, 0, maxSlope); e != api.OK {
		return api.Field{}, e
	}
	spills := leastSpills(f, slope)
	return byCell(f.Region, func(i int) float32 { return spills[i] })
}

// leastSpills goes on from the lowest cell that has been reached: no later one reaches a cell at a lesser spill, because spills never fall on a way.
func leastSpills(f api.Field, slope float32) []float32 {
	h := &heads{spills: slices.Clone(f.V)}
	reached := make([]bool, len(f.V))
	for i := range f.V {
		if isBorder(f.Region, i) {
			reached[i] = true
			h.cells = append(h.cells, i)
		}
	}
	heap.Init(h)
	for h.Len() > 0 {
		i := heap.Pop(h).(int)
		for _, n := range neighbours(f.Region, i) {
			if !reached[n] {
				reached[n] = true
				h.spills[n] = field.Greater(f.V[n], h.spills[i]+slope)
				heap.Push(h, n)
			}
		}
	}
	return h.spills
}

// heads is a heap of the cells from which ways have yet to go on, with the one of the least spill on top.
type heads struct {
	cells  []int
	spills []float32
}

// Len is that of heap.Interface.
func (h *heads) Len() int { return len(h.cells) }

// Less is that of heap.Interface.
func (h *heads) Less(a, b int) bool { return h.spills[h.cells[a]] < h.spills[h.cells[b]] }

// Swap is that of heap.Interface.
func (h *heads) Swap(a, b int) { h.cells[a], h.cells[b] = h.cells[b], h.cells[a] }

// Push is that of heap.Interface.
func (h *heads) Push(cell any) { h.cells = append(h.cells, cell.(int)) }

// Pop is that of heap.Interface.
func (h *heads) Pop() any {
	last := len(h.cells) - 1
	cell := h.cells[last]
	h.cells = h.cells[:last]
	return cell
}
