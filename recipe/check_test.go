package recipe_test

import (
	"math"
	"slices"
	"strings"
	"testing"

	"tarnfell/api"
	"tarnfell/recipe"
)

// ofRecipe is a function with a recipe, with right other arguments.
type ofRecipe struct {
	name string
	call func(r api.Recipe) (bool, api.Errno)
}

func allOfRecipe() []ofRecipe {
	return []ofRecipe{
		{"Check", func(r api.Recipe) (bool, api.Errno) { return false, recipe.Check(r) }},
		{"Print", func(r api.Recipe) (bool, api.Errno) { s, e := recipe.Print(r); return s != "", e }},
		{"Rename", func(r api.Recipe) (bool, api.Errno) { q, e := recipe.Rename(r, r.Out, r.Out); return isRecipe(q), e }},
		{"Plain", func(r api.Recipe) (bool, api.Errno) {
			f, e := recipe.Plain(r, region(0, 0, 1, 1))
			return isSome(f), e
		}},
		{"Compile", func(r api.Recipe) (bool, api.Errno) { g, e := recipe.Compile(r); return isGraph(g), e }},
	}
}

// ofGraph is a function with a graph, with right other arguments.
type ofGraph struct {
	name string
	call func(g api.Graph) (bool, api.Errno)
}

func allOfGraph() []ofGraph {
	return []ofGraph{
		{"CheckGraph", func(g api.Graph) (bool, api.Errno) { return false, recipe.CheckGraph(g) }},
		{"Needs", func(g api.Graph) (bool, api.Errno) { l, e := recipe.Needs(g); return len(l) > 0, e }},
		{"Margin", func(g api.Graph) (bool, api.Errno) { n, e := recipe.Margin(g); return n != 0, e }},
		{"Cone", func(g api.Graph) (bool, api.Errno) { l, e := recipe.Cone(g, 0); return len(l) > 0, e }},
		{"Eval", func(g api.Graph) (bool, api.Errno) {
			f, e := recipe.Eval(g, region(0, 0, 1, 1))
			return isSome(f), e
		}},
		{"All", func(g api.Graph) (bool, api.Errno) {
			l, e := recipe.All(g, region(0, 0, 1, 1))
			return len(l) > 0, e
		}},
		{"Cost", func(g api.Graph) (bool, api.Errno) {
			n, e := recipe.Cost(g, region(0, 0, 1, 1))
			return n != 0, e
		}},
		{"Bounds", func(g api.Graph) (bool, api.Errno) {
			l, h, e := recipe.Bounds(g)
			return len(l) > 0 || len(h) > 0, e
		}},
		{"Key", func(g api.Graph) (bool, api.Errno) { s, e := recipe.Key(g); return s != "", e }},
		{"Text", func(g api.Graph) (bool, api.Errno) { s, e := recipe.Text(g); return s != "", e }},
	}
}

// wantRecipe wants all functions with recipes to return an error, or none of them.
func wantRecipe(t *testing.T, what string, r api.Recipe, want api.Errno) {
	t.Helper()
	for _, f := range allOfRecipe() {
		some, e := f.call(r)
		wantNothing(t, f.name+" of "+what, some && e != api.OK, e, want)
	}
}

func wantGraphError(t *testing.T, what string, g api.Graph, want api.Errno) {
	t.Helper()
	for _, f := range allOfGraph() {
		some, e := f.call(g)
		wantNothing(t, f.name+" of "+what, some && e != api.OK, e, want)
	}
}

// wantNode wants all functions to return an error of a node behind a const; it is a step of a recipe, too.
func wantNode(t *testing.T, what string, n api.Node, want api.Errno) {
	t.Helper()
	g := api.Graph{Nodes: []api.Node{{Op: "const", Reals: []float32{0.5}}, n}, Out: 1}
	wantGraphError(t, what, g, want)
	wantRecipe(t, what, recipeOf(g), want)
	m, e := recipe.Step(n)
	wantNothing(t, "Step of "+what, m != 0 && e != api.OK, e, want)
}

// with is a right node with other numbers.
func with(op string, ints []int, reals ...float32) api.Node {
	n := right(op)
	n.Ints, n.Reals = ints, reals
	return n
}

// P140, P141: each Op has its form; a number too many or too few anywhere is ErrForm.
func TestForms(t *testing.T) {
	if len(allOps()) != 28 {
		t.Fatal(allOps())
	}
	for _, op := range allOps() {
		wantNode(t, op, right(op), api.OK)
		n := right(op)
		n.In = append(n.In, 0)
		wantNode(t, op+" with an In more", n, api.ErrForm)
		n = right(op)
		n.Ints = append(n.Ints, 1)
		wantNode(t, op+" with an Int more", n, api.ErrForm)
		n = right(op)
		n.Reals = append(n.Reals, 0.5)
		wantNode(t, op+" with a Real more", n, api.ErrForm)
		if n = right(op); len(n.In) > 0 {
			n.In = n.In[1:]
			wantNode(t, op+" with an In less", n, api.ErrForm)
		}
		if n = right(op); len(n.Ints) > 0 {
			n.Ints = n.Ints[1:]
			wantNode(t, op+" with an Int less", n, api.ErrForm)
		}
		if n = right(op); len(n.Reals) > 0 {
			n.Reals = n.Reals[1:]
			wantNode(t, op+" with a Real less", n, api.ErrForm)
		}
	}
}

// P141: what is no Op is ErrKind, ahead of ErrForm.
func TestOps(t *testing.T) {
	for _, op := range []string{"", "nope", "Const", "const ", "consts", "add\x00", "out", "="} {
		wantNode(t, op, api.Node{Op: op, In: []int{0}}, api.ErrKind)
		wantNode(t, op, api.Node{Op: op, In: []int{9, 9, 9, 9}, Ints: make([]int, 9), Reals: []float32{nan}}, api.ErrKind)
	}
}

// nodeError is a node with the error that it has.
type nodeError struct {
	n    api.Node
	want api.Errno
}

func wantNodes(t *testing.T, l []nodeError) {
	t.Helper()
	for _, s := range l {
		wantNode(t, s.n.Op, s.n, s.want)
	}
}

// P140: the numbers of steps have the errors of their functions, in the order of these.
func TestNumbersOfNoise(t *testing.T) {
	wantNodes(t, []nodeError{
		{with("noise", []int{4, 7, 4096, 10}, 1), api.OK},
		{with("noise", []int{1, 7, 1, 1}, 0), api.OK},
		{with("noise", []int{0, 7, 8, 2}, 0.5), api.ErrKind},
		{with("noise", []int{5, 7, 0, 0}, 2), api.ErrKind},
		{with("noise", []int{-1, 7, 8, 2}, 0.5), api.ErrKind},
		{with("noise", []int{1, 7, 0, 2}, 0.5), api.ErrRange},
		{with("noise", []int{1, 7, 4097, 2}, 0.5), api.ErrRange},
		{with("noise", []int{1, 7, 8, 0}, 0.5), api.ErrRange},
		{with("noise", []int{1, 7, 8, 11}, 0.5), api.ErrRange},
		{with("noise", []int{1, 7, 8, 2}, after(1)), api.ErrRange},
		{with("noise", []int{1, 7, 8, 2}, -tiny), api.ErrRange},
		{with("speckle", []int{3}, 0), api.OK},
		{with("speckle", []int{3}, 1), api.OK},
		{with("speckle", []int{3}, -tiny), api.ErrRange},
		{with("speckle", []int{3}, after(1)), api.ErrRange},
		{with("dither", []int{4}, 0x1p-10), api.OK},
		{with("dither", []int{4}, 0x1p10), api.OK},
		{with("dither", []int{4}, before(0x1p-10)), api.ErrRange},
		{with("dither", []int{4}, after(0x1p10)), api.ErrRange},
		{with("warp", []int{1, 7, 1, 1}, 0, 0), api.OK},
		{with("warp", []int{4, 7, 4096, 1}, 1, 64), api.OK},
		{with("warp", []int{0, 7, 0, 2}, 2, 65), api.ErrKind},
		{with("warp", []int{5, 7, 8, 2}, 0.5, 3), api.ErrKind},
		{with("warp", []int{1, 7, 0, 2}, 0.5, 3), api.ErrRange},
		{with("warp", []int{1, 7, 8, 11}, 0.5, 3), api.ErrRange},
		{with("warp", []int{1, 7, 8, 2}, after(1), 3), api.ErrRange},
		{with("warp", []int{1, 7, 8, 2}, 0.5, -tiny), api.ErrRange},
		{with("warp", []int{1, 7, 8, 2}, 0.5, after(64)), api.ErrRange},
	})
}

// P140: the numbers of steps have the errors of their functions, in the order of these.
func TestNumbersOfValues(t *testing.T) {
	wantNodes(t, []nodeError{
		{with("scale", nil, top, -top), api.OK},
		{with("clamp", nil, 1, 1), api.OK},
		{with("clamp", nil, 0, minusZero), api.OK},
		{with("clamp", nil, 1, before(1)), api.ErrOrder},
		{with("select", nil, 1, 1, 0), api.OK},
		{with("select", nil, -1, 1, top), api.OK},
		{with("select", nil, 1, before(1), 1), api.ErrOrder},
		{with("select", nil, 1, -1, -1), api.ErrOrder},
		{with("select", nil, -1, 1, -tiny), api.ErrRange},
		{with("terrace", nil, 0x1p-10, 0), api.OK},
		{with("terrace", nil, 0x1p10, before(1)), api.OK},
		{with("terrace", nil, before(0x1p-10), 0), api.ErrRange},
		{with("terrace", nil, after(0x1p10), 0), api.ErrRange},
		{with("terrace", nil, 1, -tiny), api.ErrRange},
		{with("terrace", nil, 1, 1), api.ErrRange},
	})
}

// P140: the numbers of steps have the errors of their functions, in the order of these.
func TestNumbersOfForms(t *testing.T) {
	wantNodes(t, []nodeError{
		{with("stamp", []int{1, -api.MaxPlace, api.MaxPlace, 256}, -3), api.OK},
		{with("stamp", []int{3, api.MaxPlace, -api.MaxPlace, 1}, 0), api.OK},
		{with("stamp", []int{0, api.MaxPlace + 1, 4, 0}, 5), api.ErrKind},
		{with("stamp", []int{4, 3, 4, 9}, 5), api.ErrKind},
		{with("stamp", []int{-1, 3, 4, 9}, 5), api.ErrKind},
		{with("stamp", []int{2, api.MaxPlace + 1, 4, 0}, 5), api.ErrPlace},
		{with("stamp", []int{2, 3, -api.MaxPlace - 1, 257}, 5), api.ErrPlace},
		{with("stamp", []int{2, 3, 4, 0}, 5), api.ErrRange},
		{with("stamp", []int{2, 3, 4, 257}, 5), api.ErrRange},
		{with("fault", []int{1000, -1000, 1 << 40, 4096}, 5), api.OK},
		{with("fault", []int{-1000, 0, -1 << 40, 0}, -5), api.OK},
		{with("fault", []int{1001, 2, 3, 4}, 5), api.ErrRange},
		{with("fault", []int{1, -1001, 3, 4}, 5), api.ErrRange},
		{with("fault", []int{0, 0, 1<<40 + 1, 4}, 5), api.ErrRange},
		{with("fault", []int{0, 0, 3, 4097}, 5), api.ErrRange},
		{with("fault", []int{1, 2, 3, -1}, 5), api.ErrRange},
		{with("fault", []int{0, 0, 3, 4}, 5), api.ErrConflict},
		{with("fold", []int{1000, -1000, 2}, 5), api.OK},
		{with("fold", []int{0, 1, 1 << 24}, -5), api.OK},
		{with("fold", []int{1001, 2, 9}, 5), api.ErrRange},
		{with("fold", []int{1, -1001, 9}, 5), api.ErrRange},
		{with("fold", []int{0, 0, 1}, 5), api.ErrRange},
		{with("fold", []int{1, 2, 1<<24 + 1}, 5), api.ErrRange},
		{with("fold", []int{0, 0, 9}, 5), api.ErrConflict},
	})
}

// P140: the numbers of steps have the errors of their functions, in the order of these.
func TestNumbersOfSurroundings(t *testing.T) {
	wantNodes(t, []nodeError{
		{with("shift", []int{64, -64}), api.OK},
		{with("shift", []int{-64, 64}), api.OK},
		{with("shift", []int{65, 0}), api.ErrRange},
		{with("shift", []int{-65, 0}), api.ErrRange},
		{with("shift", []int{0, 65}), api.ErrRange},
		{with("shift", []int{0, -65}), api.ErrRange},
		{with("blur", []int{0}), api.OK},
		{with("blur", []int{16}), api.OK},
		{with("blur", []int{-1}), api.ErrRange},
		{with("blur", []int{17}), api.ErrRange},
		{with("shade", []int{1000, -1000, 0}), api.OK},
		{with("shade", []int{0, 0, -1}), api.OK},
		{with("shade", []int{1001, 0, 0}), api.ErrRange},
		{with("shade", []int{0, -1001, 0}), api.ErrRange},
		{with("shade", []int{0, 0, 1001}), api.ErrRange},
		{with("shade", []int{0, 0, 0}), api.ErrConflict},
		{with("thermal", []int{0}, 0, 0), api.OK},
		{with("thermal", []int{64}, top, 0.125), api.OK},
		{with("thermal", []int{3}, -tiny, 0.1), api.ErrRange},
		{with("thermal", []int{3}, 1, -tiny), api.ErrRange},
		{with("thermal", []int{3}, 1, after(0.125)), api.ErrRange},
		{with("thermal", []int{-1}, 1, 0.1), api.ErrRange},
		{with("thermal", []int{65}, 1, 0.1), api.ErrRange},
		{with("smooth", []int{0}), api.OK},
		{with("smooth", []int{64}), api.OK},
		{with("smooth", []int{-1}), api.ErrRange},
		{with("smooth", []int{65}), api.ErrRange},
	})
}

// P140: a Real that is no height is ErrForm or ErrRange, ahead of all else; ErrForm comes first, wherever it stands.
func TestReals(t *testing.T) {
	for _, op := range allOps() {
		for i := range right(op).Reals {
			for _, v := range []float32{nan, inf, -inf} {
				n := right(op)
				n.Reals[i] = v
				wantNode(t, op, n, api.ErrForm)
			}
			for _, v := range []float32{beyond, -beyond, math.MaxFloat32} {
				n := right(op)
				n.Reals[i] = v
				wantNode(t, op, n, api.ErrRange)
			}
		}
		if n := right(op); len(n.Reals) > 1 {
			n.Reals[0], n.Reals[len(n.Reals)-1] = beyond, nan
			wantNode(t, op, n, api.ErrForm)
		}
	}
	wantNodes(t, []nodeError{
		{with("noise", []int{9, -1, 0, 0}, nan), api.ErrForm},
		{with("noise", []int{9, 7, 0, 0}, beyond), api.ErrRange},
		{with("stamp", []int{9, 3, 4, 9}, inf), api.ErrForm},
		{with("stamp", []int{9, 3, 4, 9}, beyond), api.ErrRange},
		{with("fault", []int{0, 0, 3, 4}, nan), api.ErrForm},
		{with("fault", []int{0, 0, 3, 4}, beyond), api.ErrRange},
		{with("fold", []int{0, 0, 9}, -inf), api.ErrForm},
		{with("fold", []int{0, 0, 9}, -beyond), api.ErrRange},
		{with("clamp", nil, 2, nan), api.ErrForm},
		{with("clamp", nil, beyond, 1), api.ErrRange},
		{with("select", nil, 2, 1, nan), api.ErrForm},
		{with("select", nil, 2, 1, beyond), api.ErrRange},
		{with("warp", []int{9, 7, 8, 2}, 0.5, nan), api.ErrForm},
		{with("warp", []int{9, 7, 8, 2}, 0.5, beyond), api.ErrRange},
		{with("thermal", []int{65}, -1, nan), api.ErrForm},
	})
}

// P140: seeds are from 0 to 2^32 - 1; others are ErrRange, behind that of the Reals, and ahead of those of the function.
func TestSeeds(t *testing.T) {
	for _, op := range allOps() {
		i := forms()[op].seed
		if i < 0 {
			continue
		}
		for _, seed := range []int{0, 1, 1 << 31, math.MaxUint32} {
			n := right(op)
			n.Ints[i] = seed
			wantNode(t, op, n, api.OK)
		}
		for _, seed := range []int{-1, math.MaxUint32 + 1, 1 << 40, math.MaxInt, math.MinInt} {
			n := right(op)
			n.Ints[i] = seed
			wantNode(t, op, n, api.ErrRange)
			if n.Ints[0] = 9; len(n.Ints) > 1 {
				n.Ints[1] = seed
				wantNode(t, op+" with no kind", n, api.ErrRange)
			}
			n = right(op)
			n.Ints[i], n.Reals[0] = seed, nan
			wantNode(t, op+" with a NaN", n, api.ErrForm)
		}
	}
}

// P141: a kernel has ErrRange for its side, if it has one, then ErrForm for its weights.
func TestKernels(t *testing.T) {
	for side := 1; side <= api.MaxKernel; side += 2 {
		wantNode(t, "kernel", with("kernel", []int{side}, make([]float32, side*side)...), api.OK)
		wantNode(t, "kernel", with("kernel", []int{side}, make([]float32, side*side+1)...), api.ErrForm)
		wantNode(t, "kernel", with("kernel", []int{side}, make([]float32, side*side-1)...), api.ErrForm)
	}
	for _, side := range []int{0, -1, -3, 2, 4, 14, 16, 17, math.MaxInt, math.MinInt, 1<<32 + 1} {
		for _, many := range []int{0, 1, 4, 9} {
			wantNode(t, "kernel", with("kernel", []int{side}, make([]float32, many)...), api.ErrRange)
		}
		n := with("kernel", []int{side}, nan)
		wantNode(t, "kernel with a NaN", n, api.ErrRange)
		n.Ints = []int{side, side}
		wantNode(t, "kernel with two sides", n, api.ErrForm)
		n.Ints, n.In = []int{side}, nil
		wantNode(t, "kernel without In", n, api.ErrForm)
		n.In = []int{77}
		g := api.Graph{Nodes: []api.Node{n}}
		wantGraphError(t, "kernel of what is not there", g, api.ErrRange)
	}
	n := with("kernel", []int{3}, nan)
	wantNode(t, "kernel of a NaN", n, api.ErrForm)
}

// P141: names are a letter and up to 31 letters, digits and _, and not out.
func TestNames(t *testing.T) {
	named := func(name string) api.Recipe {
		return api.Recipe{Steps: []api.Step{{Name: name, Op: "const", Reals: []float32{1}}}, Out: name}
	}
	for _, name := range []string{"a", "z", "A", "Z", "a0", "a9", "a_", "Out", "outs", "ou", "x_1_Y", "q" + strings.Repeat("Z", 31), "const"} {
		wantRecipe(t, name, named(name), api.OK)
		r, e := recipe.Rename(named("b"), "b", name)
		if e != api.OK || !sameRecipe(r, named(name)) {
			t.Errorf("Rename to %q: %v, error %d", name, r, e)
		}
	}
	for _, name := range []string{"", "out", "0", "9a", "_", "_a", "a-", "a ", " a", "a.", "a=", "a@", "a[", "a`", "a{", "a/", "a:", "@", "[", "`", "{", "a\n", "a\x00", "ä", "aä", "a\xff", "q" + strings.Repeat("Z", 32)} {
		wantRecipe(t, name, named(name), api.ErrName)
		r, e := recipe.Rename(named("b"), "b", name)
		wantNothing(t, "Rename", isRecipe(r), e, api.ErrName)
	}
}

// P141: the errors of recipes, in their order, step by step.
func TestCheckOrder(t *testing.T) {
	c := func(name string) api.Step { return api.Step{Name: name, Op: "const", Reals: []float32{1}} }
	slope := func(name string, in ...string) api.Step { return api.Step{Name: name, Op: "slope", In: in} }
	for _, s := range []struct {
		what  string
		steps []api.Step
		out   string
		want  api.Errno
	}{
		{"nothing", nil, "", api.ErrEmpty},
		{"no step", []api.Step{}, "a", api.ErrEmpty},
		{"no Out", []api.Step{c("a")}, "", api.ErrName},
		{"another Out", []api.Step{c("a"), c("b")}, "c", api.ErrName},
		{"an Out behind which steps follow", []api.Step{c("a"), c("b")}, "a", api.OK},
		{"a name twice", []api.Step{c("a"), c("a")}, "a", api.ErrTwice},
		{"a name twice, later", []api.Step{c("a"), c("b"), c("a")}, "a", api.ErrTwice},
		{"a name twice ahead of its Op", []api.Step{c("a"), {Name: "a", Op: "nope"}}, "a", api.ErrTwice},
		{"a name ahead of its Op", []api.Step{c("a"), {Name: "0", Op: "nope"}}, "a", api.ErrName},
		{"an Op ahead of its form", []api.Step{{Name: "a", Op: "nope", In: []string{"x"}}}, "a", api.ErrKind},
		{"a form ahead of its In", []api.Step{slope("a", "x", "y")}, "a", api.ErrForm},
		{"an In that is not there", []api.Step{slope("a", "x")}, "a", api.ErrName},
		{"an In that is no name", []api.Step{c("a"), slope("b", "")}, "b", api.ErrName},
		{"an In that is itself", []api.Step{slope("a", "a")}, "a", api.ErrName},
		{"an In that comes later", []api.Step{slope("a", "b"), c("b")}, "a", api.ErrName},
		{"an In that comes earlier", []api.Step{c("b"), slope("a", "b")}, "a", api.OK},
		{"an In ahead of its numbers", []api.Step{{Name: "a", Op: "blur", In: []string{"x"}, Ints: []int{99}}}, "a", api.ErrName},
		{"the second In", []api.Step{c("a"), {Name: "b", Op: "add", In: []string{"a", "x"}}}, "b", api.ErrName},
		{"the third In", []api.Step{c("a"), {Name: "b", Op: "blend", In: []string{"a", "a", "b"}}}, "b", api.ErrName},
		{"numbers ahead of the next name", []api.Step{{Name: "a", Op: "const", Reals: []float32{nan}}, c("0")}, "a", api.ErrForm},
		{"numbers ahead of Out", []api.Step{{Name: "a", Op: "const", Reals: []float32{beyond}}}, "x", api.ErrRange},
		{"a step that Out does not hang on", []api.Step{c("a"), {Name: "b", Op: "const", Reals: []float32{nan}}}, "a", api.ErrForm},
	} {
		wantRecipe(t, s.what, api.Recipe{Steps: s.steps, Out: s.out}, s.want)
	}
}

// P144: the errors of graphs, in their order, node by node.
func TestCheckGraphOrder(t *testing.T) {
	c := api.Node{Op: "const", Reals: []float32{1}}
	slope := func(in ...int) api.Node { return api.Node{Op: "slope", In: in} }
	for _, s := range []struct {
		what  string
		nodes []api.Node
		out   int
		want  api.Errno
	}{
		{"nothing", nil, 0, api.ErrEmpty},
		{"no node", []api.Node{}, 7, api.ErrEmpty},
		{"an Out that is not there", []api.Node{c}, 1, api.ErrName},
		{"an Out below 0", []api.Node{c}, -1, api.ErrName},
		{"a great Out", []api.Node{c}, math.MaxInt, api.ErrName},
		{"a least Out", []api.Node{c}, math.MinInt, api.ErrName},
		{"an Out behind which nodes follow", []api.Node{c, c}, 0, api.OK},
		{"the same node twice", []api.Node{c, c}, 1, api.OK},
		{"an Op ahead of its form", []api.Node{{Op: "nope", In: []int{5}}}, 0, api.ErrKind},
		{"a form ahead of its In", []api.Node{slope(5, 5)}, 0, api.ErrForm},
		{"an In that is itself", []api.Node{slope(0)}, 0, api.ErrName},
		{"an In that comes later", []api.Node{slope(1), c}, 0, api.ErrName},
		{"an In below 0", []api.Node{c, slope(-1)}, 0, api.ErrName},
		{"a great In", []api.Node{c, slope(math.MaxInt)}, 0, api.ErrName},
		{"a least In", []api.Node{c, slope(math.MinInt)}, 0, api.ErrName},
		{"an In ahead of its numbers", []api.Node{{Op: "blur", In: []int{0}, Ints: []int{99}}}, 0, api.ErrName},
		{"the third In", []api.Node{c, {Op: "blend", In: []int{0, 0, 1}}}, 1, api.ErrName},
		{"numbers ahead of the next Op", []api.Node{{Op: "const", Reals: []float32{nan}}, {Op: "nope"}}, 0, api.ErrForm},
		{"numbers ahead of Out", []api.Node{{Op: "const", Reals: []float32{beyond}}}, 9, api.ErrRange},
		{"a node that Out does not hang on", []api.Node{c, {Op: "const", Reals: []float32{nan}}}, 0, api.ErrForm},
	} {
		wantGraphError(t, s.what, api.Graph{Nodes: s.nodes, Out: s.out}, s.want)
	}
}

// P141, P144: a recipe has at most MaxSteps steps, a graph as many nodes; more are ErrLarge, ahead of all else.
func TestMany(t *testing.T) {
	chain := func(many int) api.Graph {
		g := api.Graph{Nodes: []api.Node{right("const")}}
		for i := range many - 1 {
			g.Nodes = append(g.Nodes, api.Node{Op: "scale", In: []int{i}, Reals: []float32{0.5, 1}})
		}
		g.Out = many - 1
		return g
	}
	for _, s := range []struct {
		many int
		want api.Errno
	}{{1, api.OK}, {2, api.OK}, {199, api.OK}, {200, api.OK}, {201, api.ErrLarge}, {1000, api.ErrLarge}} {
		g := chain(s.many)
		wantGraphError(t, "a chain", g, s.want)
		wantRecipe(t, "a chain", recipeOf(g), s.want)
	}
	g := chain(201)
	r := recipeOf(g)
	g.Nodes[0].Op, g.Out = "nope", -1
	wantGraphError(t, "a long chain with errors", g, api.ErrLarge)
	r.Steps[0].Name, r.Out = "", ""
	wantRecipe(t, "a long chain with errors", r, api.ErrLarge)
}

// P145: Step has the margin of a node, and does not look at its In but for their number.
func TestStep(t *testing.T) {
	n := &numbers{state: 1}
	for _, op := range allOps() {
		for range 30 {
			node := right(op)
			if node = n.likely(op, 9); len(node.In) > 0 {
				node.In = slices.Repeat([]int{pickOf(n, -1, 0, 999, math.MaxInt, math.MinInt)}, len(node.In))
			}
			m, e := recipe.Step(node)
			if e != api.OK || m != marginOf(node) {
				t.Errorf("Step of %v: %d, error %d; want %d", node, m, e, marginOf(node))
			}
		}
	}
	for _, s := range []struct {
		n    api.Node
		want int
	}{
		{right("const"), 0}, {right("blend"), 0}, {right("dither"), 0}, {right("stamp"), 0},
		{right("shift"), 3}, {with("shift", []int{2, -5}), 5}, {with("shift", []int{-2, 5}), 5}, {with("shift", []int{64, 1}), 64}, {with("shift", []int{1, 0}), 1},
		{right("blur"), 2}, {right("kernel"), 1}, {with("kernel", []int{1}, 4), 0}, {with("kernel", []int{15}, make([]float32, 225)...), 7},
		{right("slope"), 1}, {right("curve"), 1}, {right("shade"), 1}, {right("thermal"), 3}, {right("smooth"), 4},
		{with("warp", []int{2, 7, 8, 2}, 0.5, 3), 10}, {with("warp", []int{1, 7, 8, 1}, 0.5, 0), 1}, {with("warp", []int{3, 7, 8, 10}, 1, 64), 1921},
	} {
		m, e := recipe.Step(s.n)
		if e != api.OK || m != s.want {
			t.Errorf("Step of %v: %d, error %d; want %d", s.n, m, e, s.want)
		}
	}
}
