package recipe

import (
	"math"
	"strconv"
	"strings"

	"tarnfell/api"
	"tarnfell/field"
)

// CheckGraph is described in doc/07-recipe.md, P144.
func CheckGraph(g api.Graph) api.Errno {
	_, e := planOfGraph(g)
	return e
}

// Step is described in doc/07-recipe.md, P145.
func Step(n api.Node) (int, api.Errno) {
	p, e := partOf(kinds(), n, len(n.In), func(int) (int, bool) { return 0, true })
	return p.margin, e
}

// Needs is described in doc/07-recipe.md, P145.
func Needs(g api.Graph) ([]int, api.Errno) {
	p, e := planOfGraph(g)
	return p.needs, e
}

// Margin is described in doc/07-recipe.md, P145.
func Margin(g api.Graph) (int, api.Errno) {
	p, e := planOfGraph(g)
	return p.margin(), e
}

// Cone is described in doc/07-recipe.md, P145.
func Cone(g api.Graph, node int) ([]int, api.Errno) {
	p, e := planOfGraph(g)
	if e != api.OK {
		return nil, e
	}
	if !field.Within(node, 0, len(p.parts)-1) {
		return nil, api.ErrNone
	}
	var cone []int
	for i := range newPlan(p.parts, node).hung() {
		cone = append(cone, i)
	}
	return cone, api.OK
}

// Text is described in doc/07-recipe.md, P148.
func Text(g api.Graph) (string, api.Errno) {
	p, e := planOfGraph(g)
	if e != api.OK {
		return "", e
	}
	var text strings.Builder
	for i, n := range p.parts {
		text.WriteString(strconv.Itoa(i) + " = " + nodeLine(n.Node))
	}
	text.WriteString(outWord + " " + strconv.Itoa(p.out) + "\n")
	return text.String(), api.OK
}

// nodeLine tells nodes from each other by their bits: two right ones have the same line only if they are the same.
func nodeLine(n api.Node) string {
	var in []string
	for _, k := range n.In {
		in = append(in, strconv.Itoa(k))
	}
	return line(n.Op, in, n.Ints, n.Reals, func(v float32) string { return hexadecimal(uint64(math.Float32bits(v)), 8) })
}

// Key is described in doc/07-recipe.md, P148.
func Key(g api.Graph) (string, api.Errno) {
	text, e := Text(g)
	if e != api.OK {
		return "", e
	}
	return Digest(text), api.OK
}

// Digest is described in doc/07-recipe.md, P148.
func Digest(text string) string {
	h := uint64(14695981039346656037)
	for i := range len(text) {
		h = (h ^ uint64(text[i])) * 1099511628211
	}
	return hexadecimal(h, 16)
}

func hexadecimal(n uint64, digits int) string {
	text := strconv.FormatUint(n, 16)
	return strings.Repeat("0", digits-len(text)) + text
}
