package recipe

import (
	"math"
	"slices"

	"tarnfell/api"
	"tarnfell/field"
)

const constOp = "const"

// compiler has the parts that stay, and their numbers by their lines.
type compiler struct {
	parts   []part
	numbers map[string]int
}

// Compile is described in doc/07-recipe.md, P144.
func Compile(r api.Recipe) (api.Graph, api.Errno) {
	p, e := planOfRecipe(r)
	if e != api.OK {
		return api.Graph{}, e
	}
	c := compiler{numbers: map[string]int{}}
	places := make([]int, len(p.parts))
	for i, n := range p.hung() {
		n.In = pick(places, n.In)
		places[i] = c.place(n)
	}
	return newPlan(c.parts, places[p.out]).graph(), api.OK
}

// graph has the parts alone that Out hangs on, in memory of its own.
func (p plan) graph() api.Graph {
	var g api.Graph
	places := make([]int, len(p.parts))
	for i, n := range p.hung() {
		places[i] = len(g.Nodes)
		g.Nodes = append(g.Nodes, api.Node{Op: n.Op, In: pick(places, n.In), Ints: slices.Clone(n.Ints), Reals: slices.Clone(n.Reals)})
	}
	g.Out = places[p.out]
	return g
}

// place gives the number of the part that takes the place of a part.
func (c *compiler) place(n part) int {
	if input, same := c.nothingBut(n); same {
		return input
	}
	n = c.worth(n)
	key := nodeLine(n.Node)
	number, known := c.numbers[key]
	if !known {
		number = len(c.parts)
		c.parts = append(c.parts, n)
		c.numbers[key] = number
	}
	return number
}

// nothingBut gives the input that a part gives back as it is, bit for bit: x + 0 does not, because of -0.
func (c *compiler) nothingBut(n part) (input int, same bool) {
	switch n.Op {
	case "mul":
		return c.eitherSide(n, 1)
	case "add":
		return c.eitherSide(n, float32(math.Copysign(0, -1)))
	case "div":
		return n.In[0], c.isConst(n.In[1], 1)
	case "sub":
		return n.In[0], c.isConst(n.In[1], 0)
	case "less", "more":
		return n.In[0], n.In[0] == n.In[1]
	case "shift":
		return n.In[0], n.Ints[0] == 0 && n.Ints[1] == 0
	case "blur", "smooth", "thermal":
		return n.In[0], n.Ints[0] == 0
	case "kernel":
		return n.In[0], n.Ints[0] == 1 && n.Reals[0] == 1
	}
	return 0, false
}

func (c *compiler) eitherSide(n part, v float32) (input int, same bool) {
	if c.isConst(n.In[0], v) {
		return n.In[1], true
	}
	return n.In[0], c.isConst(n.In[1], v)
}

// isConst compares bits.
func (c *compiler) isConst(i int, v float32) bool {
	n := c.parts[i]
	return n.Op == constOp && math.Float32bits(n.Reals[0]) == math.Float32bits(v)
}

// worth gives the const that a part is worth, or the part itself, if it is worth none.
func (c *compiler) worth(n part) part {
	if !hangsOnValues(n.Op) {
		return n
	}
	var in []api.Field
	for _, k := range pick(c.parts, n.In) {
		if k.Op != constOp {
			return n
		}
		f, _ := field.Fill(oneCell(), k.Reals[0])
		in = append(in, f)
	}
	f, e := n.eval(in, oneCell())
	if e != api.OK {
		return n
	}
	w, _ := constant(nil, f.V)
	return part{api.Node{Op: constOp, Reals: f.V}, w}
}

// hangsOnValues reports whether a step makes each value of those of the same cell alone.
func hangsOnValues(op string) bool {
	switch op {
	case "add", "sub", "mul", "div", "less", "more", "over", "scale", "clamp", "blend", "select", "terrace":
		return true
	}
	return false
}
