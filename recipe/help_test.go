package recipe_test

import (
	"math"
	"slices"
	"strconv"
	"strings"
	"testing"

	"tarnfell/api"
	"tarnfell/recipe"
)

var (
	nan       = float32(math.NaN())
	inf       = float32(math.Inf(1))
	minusZero = float32(math.Copysign(0, -1))
)

const (
	top    = float32(api.MaxHeight)
	beyond = top + 0.125 // the least single above all heights
	tiny   = float32(math.SmallestNonzeroFloat32)
)

func region(x, y, w, h int) api.Region { return api.Region{X: x, Y: y, W: w, H: h} }

func smaller(r api.Region, n int) api.Region { return region(r.X+n, r.Y+n, r.W-2*n, r.H-2*n) }

func of(x, y, w, h int, v ...float32) api.Field {
	return api.Field{Region: region(x, y, w, h), V: v}
}

func after(v float32) float32 { return math.Nextafter32(v, inf) }

func before(v float32) float32 { return math.Nextafter32(v, -inf) }

func sameBits(a, b float32) bool { return math.Float32bits(a) == math.Float32bits(b) }

func sameSingles(a, b []float32) bool { return slices.EqualFunc(a, b, sameBits) }

func valueAt(f api.Field, x, y int) float32 { return f.V[(y-f.Y)*f.W+x-f.X] }

// partOf is the part of a field in a region.
func partOf(f api.Field, r api.Region) api.Field {
	g := api.Field{Region: r}
	for i := range r.W * r.H {
		g.V = append(g.V, valueAt(f, r.X+i%r.W, r.Y+i/r.W))
	}
	return g
}

// read makes a recipe of its text. A slash stands for a line feed, so that a recipe has one line here.
func read(t *testing.T, text string) api.Recipe {
	t.Helper()
	r, n, e := recipe.Parse(strings.ReplaceAll(text, "/", "\n"))
	if e != api.OK {
		t.Fatalf("Parse of %q: line %d, error %d", text, n, e)
	}
	return r
}

func compiled(t *testing.T, r api.Recipe) api.Graph {
	t.Helper()
	g, e := recipe.Compile(r)
	if e != api.OK {
		t.Fatalf("Compile of %v: error %d", r, e)
	}
	return g
}

// graphOf is the graph of a recipe as it is, without what Compile does.
func graphOf(r api.Recipe) api.Graph {
	number := func(name string) int {
		return slices.IndexFunc(r.Steps, func(s api.Step) bool { return s.Name == name })
	}
	g := api.Graph{Out: number(r.Out)}
	for _, s := range r.Steps {
		n := api.Node{Op: s.Op, Ints: slices.Clone(s.Ints), Reals: slices.Clone(s.Reals)}
		for _, name := range s.In {
			n.In = append(n.In, number(name))
		}
		g.Nodes = append(g.Nodes, n)
	}
	return g
}

// recipeOf is the recipe whose graph that is.
func recipeOf(g api.Graph) api.Recipe {
	name := func(i int) string { return "s" + strconv.Itoa(i) }
	r := api.Recipe{Out: name(g.Out)}
	for i, n := range g.Nodes {
		s := api.Step{Name: name(i), Op: n.Op, Ints: slices.Clone(n.Ints), Reals: slices.Clone(n.Reals)}
		for _, k := range n.In {
			s.In = append(s.In, name(k))
		}
		r.Steps = append(r.Steps, s)
	}
	return r
}

func copyOf(r api.Recipe) api.Recipe {
	r.Steps = slices.Clone(r.Steps)
	for i, s := range r.Steps {
		r.Steps[i].In, r.Steps[i].Ints, r.Steps[i].Reals = slices.Clone(s.In), slices.Clone(s.Ints), slices.Clone(s.Reals)
	}
	return r
}

func sameStep(a, b api.Step) bool {
	return a.Name == b.Name && a.Op == b.Op && slices.Equal(a.In, b.In) && slices.Equal(a.Ints, b.Ints) && sameSingles(a.Reals, b.Reals)
}

func sameRecipe(a, b api.Recipe) bool {
	return a.Out == b.Out && slices.EqualFunc(a.Steps, b.Steps, sameStep)
}

func sameNode(a, b api.Node) bool {
	return a.Op == b.Op && slices.Equal(a.In, b.In) && slices.Equal(a.Ints, b.Ints) && sameSingles(a.Reals, b.Reals)
}

func sameGraph(a, b api.Graph) bool {
	return a.Out == b.Out && slices.EqualFunc(a.Nodes, b.Nodes, sameNode)
}

func sameField(a, b api.Field) bool { return a.Region == b.Region && sameSingles(a.V, b.V) }

func wantError(t *testing.T, what string, e, want api.Errno) {
	t.Helper()
	if e != want {
		t.Errorf("%s: error %d, want %d", what, e, want)
	}
}

// wantNothing wants an error, and no result with it.
func wantNothing(t *testing.T, what string, some bool, e, want api.Errno) {
	t.Helper()
	wantError(t, what, e, want)
	if some {
		t.Errorf("%s: a result with the error %d", what, e)
	}
}

func isSome(f api.Field) bool { return f.Region != api.Region{} || len(f.V) > 0 }

func isRecipe(r api.Recipe) bool { return len(r.Steps) > 0 || r.Out != "" }

func isGraph(g api.Graph) bool { return len(g.Nodes) > 0 || g.Out != 0 }

func wantField(t *testing.T, what string, f api.Field, e api.Errno, want api.Field) {
	t.Helper()
	if e != api.OK || f.Region != want.Region || len(f.V) != len(want.V) {
		t.Errorf("%s: got %d values of %v, error %d; want %d of %v", what, len(f.V), f.Region, e, len(want.V), want.Region)
		return
	}
	for i, v := range f.V {
		if !sameBits(v, want.V[i]) {
			t.Errorf("%s: got %v at (%d, %d), want %v", what, v, f.X+i%f.W, f.Y+i/f.W, want.V[i])
			return
		}
	}
}

func wantGraph(t *testing.T, what string, g api.Graph, e api.Errno, want api.Graph) {
	t.Helper()
	if e != api.OK || !sameGraph(g, want) {
		t.Errorf("%s: got %v, error %d; want %v", what, g, e, want)
	}
}

// numbers is a sequence that is the same in every run.
type numbers struct{ state uint64 }

func (n *numbers) next() uint32 {
	n.state = n.state*6364136223846793005 + 1442695040888963407
	return uint32(n.state >> 32)
}

func (n *numbers) between(least, most int) int { return least + int(n.next())%(most-least+1) }

// single is from -1 to 1.
func (n *numbers) single() float32 { return float32(int32(n.next())) / (1 << 31) }

// share is from 0 to 1.
func (n *numbers) share() float32 { return float32(n.next()) / (1 << 32) }

// height has any sign, and any magnitude.
func (n *numbers) height() float32 {
	for {
		if v := math.Float32frombits(n.next()); v >= -top && v <= top {
			return v
		}
	}
}

func (n *numbers) region(most int) api.Region {
	return region(n.between(-30, 30), n.between(-30, 30), n.between(1, most), n.between(1, most))
}

func pickOf[T any](n *numbers, l ...T) T { return l[n.between(0, len(l)-1)] }

// value is one of those that much hangs on, or any.
func (n *numbers) value() float32 {
	if n.between(0, 2) > 0 {
		return pickOf(n, 0, minusZero, 1, -1, 2, 0.5, -3, 0.25)
	}
	return n.single() * 4
}

// likely is a node of an Op with right numbers, among them often those that change nothing; In have any numbers below many.
func (n *numbers) likely(op string, many int) api.Node {
	node := api.Node{Op: op}
	for range forms()[op].in {
		node.In = append(node.In, n.between(max(0, many-5), many-1))
	}
	kind := func() int { return n.between(1, 4) }
	seed := func() int { return pickOf(n, 0, 1, 7, math.MaxUint32) }
	switch op {
	case "const":
		node.Reals = []float32{n.value()}
	case "noise":
		node.Ints, node.Reals = []int{kind(), seed(), n.between(1, 9), n.between(1, 3)}, []float32{n.share()}
	case "speckle":
		node.Ints, node.Reals = []int{seed()}, []float32{n.share()}
	case "scale":
		node.Reals = []float32{n.value(), n.value()}
	case "clamp":
		low := n.value()
		node.Reals = []float32{low, low + n.share()}
	case "select":
		low := n.value()
		node.Reals = []float32{low, low + n.share(), pickOf(n, 0, n.share())}
	case "terrace":
		node.Reals = []float32{n.share() + 0.01, pickOf(n, 0, n.share()*0.9)}
	case "dither":
		node.Ints, node.Reals = []int{seed()}, []float32{n.share() + 0.01}
	case "stamp":
		node.Ints, node.Reals = []int{n.between(1, 3), n.between(-30, 30), n.between(-30, 30), n.between(1, 40)}, []float32{n.value()}
	case "fault":
		node.Ints, node.Reals = []int{n.between(-9, 9), n.between(1, 9), n.between(-99, 99), n.between(0, 9)}, []float32{n.value()}
	case "fold":
		node.Ints, node.Reals = []int{n.between(-9, 9), n.between(1, 9), n.between(2, 99)}, []float32{n.value()}
	case "shift":
		node.Ints = []int{pickOf(n, 0, n.between(-4, 4)), pickOf(n, 0, n.between(-4, 4))}
	case "blur":
		node.Ints = []int{n.between(0, 2)}
	case "kernel":
		side := pickOf(n, 1, 1, 3)
		node.Ints = []int{side}
		for range side * side {
			node.Reals = append(node.Reals, n.value())
		}
	case "shade":
		node.Ints = []int{n.between(-9, 9), n.between(-9, 9), n.between(1, 9)}
	case "thermal":
		node.Ints, node.Reals = []int{n.between(0, 2)}, []float32{n.share() * 0.1, n.share() * 0.125}
	case "smooth":
		node.Ints = []int{n.between(0, 2)}
	case "warp":
		node.Ints, node.Reals = []int{kind(), seed(), n.between(1, 9), n.between(1, 2)}, []float32{n.share(), pickOf(n, 0, n.share()*2)}
	}
	return node
}

// graph has so many right nodes of all Ops. Those without In come at the start, and again and again.
func (n *numbers) graph(many int) api.Graph {
	var g api.Graph
	for i := range many {
		op := pickOf(n, allOps()...)
		if i == 0 || n.between(0, 4) == 0 {
			op = pickOf(n, "const", "const", "noise", "speckle")
		}
		g.Nodes = append(g.Nodes, n.likely(op, i))
	}
	g.Out = n.between(max(0, many-3), many-1)
	return g
}

// form is how many In, Ints and Reals an Op has, and which of its Ints is a seed.
type form struct{ in, ints, reals, seed int }

// forms has the table of P140, of kernel for the side 3.
func forms() map[string]form {
	return map[string]form{
		"const": {0, 0, 1, -1}, "noise": {0, 4, 1, 1}, "speckle": {0, 1, 1, 0},
		"add": {2, 0, 0, -1}, "sub": {2, 0, 0, -1}, "mul": {2, 0, 0, -1}, "div": {2, 0, 0, -1}, "less": {2, 0, 0, -1}, "more": {2, 0, 0, -1}, "over": {2, 0, 0, -1},
		"scale": {1, 0, 2, -1}, "clamp": {1, 0, 2, -1}, "blend": {3, 0, 0, -1}, "select": {1, 0, 3, -1}, "terrace": {1, 0, 2, -1}, "dither": {1, 1, 1, 0},
		"stamp": {1, 4, 1, -1}, "fault": {1, 4, 1, -1}, "fold": {1, 3, 1, -1}, "shift": {1, 2, 0, -1}, "blur": {1, 1, 0, -1}, "kernel": {1, 1, 9, -1},
		"slope": {1, 0, 0, -1}, "curve": {1, 0, 0, -1}, "shade": {1, 3, 0, -1}, "thermal": {1, 1, 2, -1}, "smooth": {1, 1, 0, -1}, "warp": {1, 4, 2, 1},
	}
}

func allOps() []string {
	var l []string
	for op := range forms() {
		l = append(l, op)
	}
	slices.Sort(l)
	return l
}

// right has a node of each Op with right numbers, whose In are all 0.
func right(op string) api.Node {
	n := map[string]api.Node{
		"const": {Reals: []float32{2}}, "noise": {Ints: []int{1, 7, 8, 2}, Reals: []float32{0.5}}, "speckle": {Ints: []int{3}, Reals: []float32{0.5}},
		"scale": {Reals: []float32{2, 1}}, "clamp": {Reals: []float32{-1, 1}}, "select": {Reals: []float32{-1, 1, 0.5}}, "terrace": {Reals: []float32{0.5, 0.25}},
		"dither": {Ints: []int{4}, Reals: []float32{0.5}}, "stamp": {Ints: []int{2, 3, 4, 9}, Reals: []float32{5}}, "fault": {Ints: []int{1, 2, 3, 4}, Reals: []float32{5}},
		"fold": {Ints: []int{1, 2, 9}, Reals: []float32{5}}, "shift": {Ints: []int{-3, 2}}, "blur": {Ints: []int{2}}, "kernel": {Ints: []int{3}, Reals: []float32{1, 2, 1, 2, 4, 2, 1, 2, 1}},
		"shade": {Ints: []int{1, 2, 3}}, "thermal": {Ints: []int{3}, Reals: []float32{0.25, 0.125}}, "smooth": {Ints: []int{4}}, "warp": {Ints: []int{2, 7, 8, 2}, Reals: []float32{0.5, 3}},
	}[op]
	n.Op, n.In = op, make([]int, forms()[op].in)
	return n
}
