package road

import (
	"container/heap"
	"slices"

	"tarnfell/api"
	"tarnfell/field"
	"tarnfell/water"
)

// label is what is known of a node that has been found: the least price of a way to it, how many steps such a way has, and from which node the last one leads.
type label struct {
	found         bool
	price         float32
	steps, before int
}

// less compares prices, then steps, so that steps that cost too little to change a price lead no way around; then the places ahead, of which the first one is wanted.
func (l label) less(m label) bool {
	switch {
	case l.price != m.price:
		return l.price < m.price
	case l.steps != m.steps:
		return l.steps < m.steps
	}
	return l.before < m.before
}

// search labels all nodes to which ways lead from the first one; next visits those to which steps from a node lead, with costs that are not below 0. Each label is final when it leaves the heap, because a step leads to none that is less.
func search(nodes, first int, next func(i int, visit func(k int, cost float32))) []label {
	labels := make([]label, nodes)
	var h heads
	find := func(k int, l label) {
		if !labels[k].found || l.less(labels[k]) {
			labels[k] = l
			heap.Push(&h, head{l, k})
		}
	}
	find(first, label{found: true, before: none})
	for len(h) > 0 {
		from := heap.Pop(&h).(head)
		if from.label != labels[from.node] {
			continue
		}
		next(from.node, func(k int, cost float32) {
			// A sum begins with the first cost: with 0 it would lose the sign of a -0.
			price := cost
			if from.node != first {
				price = from.price + cost
			}
			find(k, label{true, price, from.steps + 1, from.node})
		})
	}
	return labels
}

// head is a label that a node once had, where a way may go on.
type head struct {
	label
	node int
}

// heads is a heap with the least label on top.
type heads []head

// Len is that of heap.Interface.
func (h heads) Len() int { return len(h) }

// Less is that of heap.Interface.
func (h heads) Less(i, k int) bool { return h[i].less(h[k].label) }

// Swap is that of heap.Interface.
func (h heads) Swap(i, k int) { h[i], h[k] = h[k], h[i] }

// Push is that of heap.Interface.
func (h *heads) Push(v any) { *h = append(*h, v.(head)) }

// Pop is that of heap.Interface.
func (h *heads) Pop() any {
	last := len(*h) - 1
	v := (*h)[last]
	*h = (*h)[:last]
	return v
}

// prices tells of each node the least price of a way to it, and whether there is one.
func prices(labels []label) ([]float32, []bool) {
	least, found := make([]float32, len(labels)), make([]bool, len(labels))
	for i, l := range labels {
		least[i], found[i] = l.price, l.found
	}
	return least, found
}

// search labels the cells to which ways lead from a place.
func (g ground) search(from api.Point) []label {
	return search(len(g.V), number(g.Field, from), g.steps)
}

// Costs is described in doc/05-road.md, P102.
func Costs(f api.Field, s api.RoadRules, from api.Point) ([]float32, []bool, api.Errno) {
	g, e := groundOf(f, s, from)
	if e != api.OK {
		return nil, nil, e
	}
	least, found := prices(g.search(from))
	return least, found, api.OK
}

// Way is described in doc/05-road.md, P102.
func Way(f api.Field, s api.RoadRules, from, to api.Point) ([]api.Point, float32, api.Errno) {
	g, e := groundOf(f, s, from, to)
	if e != api.OK {
		return nil, 0, e
	}
	labels := g.search(from)
	end := labels[number(f, to)]
	if !end.found {
		return nil, 0, api.ErrNone
	}
	return wayTo(f, labels, to), end.price, api.OK
}

// wayTo goes back from a place to which a way has been found.
func wayTo(f api.Field, labels []label, to api.Point) []api.Point {
	var way []api.Point
	for i := number(f, to); i != none; i = labels[i].before {
		way = append(way, water.Place(f.Region, i))
	}
	slices.Reverse(way)
	return way
}

// Within is described in doc/05-road.md, P102.
func Within(f api.Field, s api.RoadRules, from api.Point, most float32) ([]api.Point, api.Errno) {
	g, e := groundOf(f, s, from)
	if e != api.OK {
		return nil, e
	}
	if e := field.CheckHeights(most); e != api.OK {
		return nil, e
	}
	var near []api.Point
	for i, l := range g.search(from) {
		if l.found && l.price <= most {
			near = append(near, water.Place(f.Region, i))
		}
	}
	return near, api.OK
}
