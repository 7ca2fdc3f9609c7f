package recipe

import (
	"iter"
	"slices"

	"tarnfell/api"
	"tarnfell/field"
)

// part is a node with what it does.
type part struct {
	api.Node
	work
}

// plan is a recipe or a graph without errors.
type plan struct {
	parts []part
	out   int
	needs []int // see Needs
}

func newPlan(parts []part, out int) plan { return plan{parts, out, needsOf(parts, out)} }

// needsOf goes from the end to the start, so that what hangs on a part comes ahead of it.
func needsOf(parts []part, out int) []int {
	needs := slices.Repeat([]int{-1}, len(parts))
	needs[out] = 0
	for i := out; i >= 0; i-- {
		if needs[i] < 0 {
			continue
		}
		for _, k := range parts[i].In {
			needs[k] = max(needs[k], needs[i]+parts[i].margin)
		}
	}
	return needs
}

// hung gives the parts that Out hangs on, with their numbers, rising.
func (p plan) hung() iter.Seq2[int, part] {
	return func(yield func(i int, n part) bool) {
		for i, n := range p.parts {
			if p.needs[i] >= 0 && !yield(i, n) {
				return
			}
		}
	}
}

func (p plan) margin() int {
	most := 0
	for i, n := range p.hung() {
		most = max(most, p.needs[i]+n.margin)
	}
	return most
}

// planOfRecipe has the errors of Check.
func planOfRecipe(r api.Recipe) (plan, api.Errno) {
	if e := checkMany(len(r.Steps)); e != api.OK {
		return plan{}, e
	}
	all := kinds()
	numbers := map[string]int{}
	var parts []part
	for i, s := range r.Steps {
		if !isName(s.Name) {
			return plan{}, api.ErrName
		}
		if _, twice := numbers[s.Name]; twice {
			return plan{}, api.ErrTwice
		}
		n, e := partOf(all, api.Node{Op: s.Op, Ints: s.Ints, Reals: s.Reals}, len(s.In), func(k int) (int, bool) {
			number, known := numbers[s.In[k]]
			return number, known
		})
		if e != api.OK {
			return plan{}, e
		}
		numbers[s.Name] = i
		parts = append(parts, n)
	}
	out, known := numbers[r.Out]
	if !known {
		return plan{}, api.ErrName
	}
	return newPlan(parts, out), api.OK
}

// planOfGraph has the errors of CheckGraph.
func planOfGraph(g api.Graph) (plan, api.Errno) {
	if e := checkMany(len(g.Nodes)); e != api.OK {
		return plan{}, e
	}
	all := kinds()
	var parts []part
	for i, n := range g.Nodes {
		next, e := partOf(all, n, len(n.In), func(k int) (int, bool) {
			return n.In[k], field.Within(n.In[k], 0, i-1)
		})
		if e != api.OK {
			return plan{}, e
		}
		parts = append(parts, next)
	}
	if !field.Within(g.Out, 0, len(parts)-1) {
		return plan{}, api.ErrName
	}
	return newPlan(parts, g.Out), api.OK
}

func checkMany(steps int) api.Errno {
	switch {
	case steps == 0:
		return api.ErrEmpty
	case steps > api.MaxSteps:
		return api.ErrLarge
	}
	return api.OK
}

// partOf takes the In of a node from find, because the errors of its form come ahead of those of what is not found, and those of its numbers behind them.
func partOf(all map[string]kind, n api.Node, in int, find func(k int) (int, bool)) (part, api.Errno) {
	k, known := all[n.Op]
	if !known {
		return part{}, api.ErrKind
	}
	if e := k.checkForm(in, n.Ints, n.Reals); e != api.OK {
		return part{}, e
	}
	n.In = nil
	for i := range in {
		number, found := find(i)
		if !found {
			return part{}, api.ErrName
		}
		n.In = append(n.In, number)
	}
	w, e := k.workOf(n.Ints, n.Reals)
	if e != api.OK {
		return part{}, e
	}
	return part{n, w}, api.OK
}

// pick gives the elements with these numbers.
func pick[T any](l []T, numbers []int) []T {
	var picked []T
	for _, i := range numbers {
		picked = append(picked, l[i])
	}
	return picked
}
