package recipe_test

import (
	"math"
	"slices"
	"strconv"
	"strings"
	"testing"

	"tarnfell/api"
	"tarnfell/recipe"
)

// scribble writes over all slices of a recipe, also the room behind them.
func scribble(r api.Recipe) {
	for i := range r.Steps {
		s := &r.Steps[i]
		s.Name, s.Op = "scribble", "scribble"
		fill(s.In, "scribble")
		fill(s.Ints, -12345)
		fill(s.Reals, nan)
	}
}

func scribbleGraph(g api.Graph) {
	for i := range g.Nodes {
		g.Nodes[i].Op = "scribble"
		fill(g.Nodes[i].In, -12345)
		fill(g.Nodes[i].Ints, -12345)
		fill(g.Nodes[i].Reals, nan)
	}
}

func fill[T any](l []T, v T) {
	l = l[:cap(l)]
	for i := range l {
		l[i] = v
	}
}

// roomy has slices with room behind them, in which something stands.
func roomy[T any](l []T, v T) []T { return append(slices.Clone(l), v, v)[:len(l)] }

func roomyRecipe(r api.Recipe) api.Recipe {
	r = copyOf(r)
	for i, s := range r.Steps {
		r.Steps[i].In, r.Steps[i].Ints, r.Steps[i].Reals = roomy(s.In, "room"), roomy(s.Ints, 77), roomy(s.Reals, 77)
	}
	r.Steps = roomy(r.Steps, api.Step{Name: "room"})
	return r
}

func wantRoom(t *testing.T, what string, r, want api.Recipe) {
	t.Helper()
	if !sameRecipe(r, want) {
		t.Errorf("%s changes its recipe to %v", what, r)
	}
	for _, s := range r.Steps {
		if !slices.Equal(s.In[len(s.In):len(s.In)+2], []string{"room", "room"}) || !slices.Equal(s.Ints[len(s.Ints):len(s.Ints)+2], []int{77, 77}) || !slices.Equal(s.Reals[len(s.Reals):len(s.Reals)+2], []float32{77, 77}) {
			t.Errorf("%s writes behind %v", what, s)
		}
	}
	if room := r.Steps[len(r.Steps) : len(r.Steps)+2]; room[0].Name != "room" || room[1].Name != "room" {
		t.Errorf("%s writes behind the steps", what)
	}
}

// all has the results of all functions of a recipe, and of its graph, in one text and one field.
func all(r api.Recipe, g api.Graph, at api.Region) (string, []api.Field) {
	text, _ := recipe.Print(r)
	text2, _ := recipe.Text(g)
	k, _ := recipe.Key(g)
	text += text2 + k
	q, _ := recipe.Rename(r, r.Out, "other")
	more, _ := recipe.Print(q)
	text += more
	c, _ := recipe.Compile(r)
	more, _ = recipe.Text(c)
	text += more
	needs, _ := recipe.Needs(g)
	cone, _ := recipe.Cone(g, g.Out)
	for _, i := range append(needs, cone...) {
		text += " " + strconv.Itoa(i)
	}
	m, _ := recipe.Margin(g)
	cost, _ := recipe.Cost(g, at)
	s, _ := recipe.Step(g.Nodes[g.Out])
	text += " " + strconv.Itoa(m) + " " + strconv.Itoa(cost) + " " + strconv.Itoa(s)
	low, high, _ := recipe.Bounds(g)
	plain, _ := recipe.Plain(r, at)
	eval, _ := recipe.Eval(g, at)
	fields, _ := recipe.All(g, at)
	return text, append(fields, plain, eval, api.Field{V: low}, api.Field{V: high})
}

// G2: arguments are neither modified nor retained, results share no memory, and calls leave no state.
func TestArgumentsAreLeftAlone(t *testing.T) {
	n := &numbers{state: 15}
	for range 200 {
		kept := recipeOf(n.graph(9))
		at := n.region(5)
		r := roomyRecipe(kept)
		g := graphOf(r)
		for i, node := range g.Nodes {
			g.Nodes[i].In, g.Nodes[i].Ints, g.Nodes[i].Reals = roomy(node.In, 77), roomy(node.Ints, 77), roomy(node.Reals, 77)
		}
		text, fields := all(r, g, at)
		wantRoom(t, "one of all", r, kept)
		for _, node := range g.Nodes {
			if !slices.Equal(node.In[:len(node.In)+2][len(node.In):], []int{77, 77}) || !slices.Equal(node.Ints[:len(node.Ints)+2][len(node.Ints):], []int{77, 77}) || !sameSingles(node.Reals[:len(node.Reals)+2][len(node.Reals):], []float32{77, 77}) {
				t.Errorf("one of all writes behind %v", node)
			}
		}
		wantGraph(t, "one of all", g, api.OK, graphOf(kept))
		wantFresh(t, r, g, kept, at)
		again, fieldsAgain := all(kept, graphOf(kept), at)
		if again != text || !slices.EqualFunc(fields, fieldsAgain, sameField) {
			t.Errorf("%v has other results the second time", kept)
		}
	}
}

// wantFresh wants results to stay when arguments, and other results, are written over.
func wantFresh(t *testing.T, r api.Recipe, g api.Graph, kept api.Recipe, at api.Region) {
	t.Helper()
	renamed, _ := recipe.Rename(r, r.Out, r.Out)
	graph, _ := recipe.Compile(r)
	fields, _ := recipe.All(g, at)
	plain, _ := recipe.Plain(r, at)
	scribble(r)
	scribbleGraph(g)
	if !sameRecipe(renamed, kept) {
		t.Errorf("Rename of %v shares memory", kept)
	}
	want := compiled(t, kept)
	wantGraph(t, "Compile, when its recipe is written over", graph, api.OK, want)
	for i := range graph.Nodes {
		one := api.Graph{Nodes: slices.Clone(graph.Nodes[i : i+1])}
		scribbleGraph(one)
		if later := graph.Nodes[i+1:]; !slices.EqualFunc(later, want.Nodes[i+1:], sameNode) {
			t.Errorf("nodes of %v share memory", kept)
		}
	}
	again, _ := recipe.All(graphOf(kept), at)
	plainAgain, _ := recipe.Plain(kept, at)
	for i := range fields {
		fill(fields[i].V, -12345)
		if !slices.EqualFunc(fields[i+1:], again[i+1:], sameField) {
			t.Errorf("fields of %v share memory", kept)
		}
	}
	if !sameField(plain, plainAgain) {
		t.Errorf("Plain of %v shares memory", kept)
	}
}

// G2: needs, cones and bounds are new memory in each call.
func TestListsAreNew(t *testing.T) {
	g := graphOf(read(t, "a = const 1/b = slope a/out b"))
	needs, _ := recipe.Needs(g)
	cone, _ := recipe.Cone(g, 1)
	low, high, _ := recipe.Bounds(g)
	fill(needs, 9)
	fill(cone, 9)
	fill(low, 9)
	if !slices.Equal(high, []float32{1, 0}) {
		t.Error("low and high share memory", high)
	}
	fill(high, 9)
	needs, _ = recipe.Needs(g)
	cone, _ = recipe.Cone(g, 1)
	low, high, _ = recipe.Bounds(g)
	if !slices.Equal(needs, []int{1, 0}) || !slices.Equal(cone, []int{0, 1}) || !slices.Equal(low, []float32{1, 0}) || !slices.Equal(high, []float32{1, 0}) {
		t.Error("a list is not new:", needs, cone, low, high)
	}
}

// G3: nil and empty slices are the same.
func TestEmptySlices(t *testing.T) {
	r := api.Recipe{Steps: []api.Step{{Name: "a", Op: "const", In: []string{}, Ints: []int{}, Reals: []float32{2}}, {Name: "b", Op: "slope", In: []string{"a"}, Ints: []int{}, Reals: []float32{}}}, Out: "b"}
	wantRecipe(t, "empty slices", r, api.OK)
	wantGraphError(t, "empty slices", api.Graph{Nodes: []api.Node{{Op: "const", In: []int{}, Ints: []int{}, Reals: []float32{2}}}}, api.OK)
}

var (
	wildInts    = []int{0, 1, -1, 2, 3, 15, 64, 256, 1000, api.MaxPlace, -api.MaxPlace, math.MaxUint32, 1<<32 + 1, 1 << 40, -1 << 62, math.MaxInt, math.MinInt}
	wildSingles = []float32{0, minusZero, 1, -0.5, 0.125, tiny, -tiny, 64, top, -top, beyond, math.MaxFloat32, -math.MaxFloat32, inf, -inf, nan}
)

// wantWild wants no result together with an error, and right results without one.
func wantWild(t *testing.T, g api.Graph, at api.Region) {
	t.Helper()
	r := recipeOf(g)
	want := recipe.CheckGraph(g)
	for _, f := range allOfGraph() {
		some, e := f.call(g)
		if some && e != api.OK {
			t.Errorf("%s of %v: a result with the error %d", f.name, g, e)
		}
	}
	wantError(t, "Check", recipe.Check(r), want)
	c, e := recipe.Compile(r)
	wantNothing(t, "Compile", isGraph(c) && e != api.OK, e, want)
	if e == api.OK {
		wantError(t, "CheckGraph of what is compiled", recipe.CheckGraph(c), api.OK)
	}
	f, e := recipe.Eval(g, at)
	p, e2 := recipe.Plain(r, at)
	if e != e2 || isSome(f) != (e == api.OK) || !sameField(f, p) {
		t.Errorf("Eval of %v: %v, error %d; Plain has %v, error %d", g, f, e, p, e2)
	}
	for _, v := range f.V {
		if !isHeight(v) {
			t.Errorf("Eval of %v has %v", g, v)
		}
	}
}

// G1, G3, G7: no function panics, whatever the numbers of a step are.
func TestWildNumbers(t *testing.T) {
	at := region(-1, 2, 2, 1)
	for _, op := range allOps() {
		for i := range max(1, len(right(op).Ints)) {
			for _, a := range wildInts {
				for k := range max(1, len(right(op).Reals)) {
					for _, v := range wildSingles {
						n := right(op)
						if len(n.Ints) > 0 {
							n.Ints[i] = a
						}
						if len(n.Reals) > 0 {
							n.Reals[k] = v
						}
						wantWild(t, api.Graph{Nodes: []api.Node{right("noise"), n}, Out: 1}, at)
						recipe.Step(n)
					}
				}
			}
		}
	}
}

// G1, G3: no function panics, whatever the numbers of nodes and the regions are.
func TestWildPlaces(t *testing.T) {
	g := graphOf(read(t, "a = noise 1 2 3 4 0.5/b = blur a 2/c = shift b 64 -64/d = warp c 1 2 3 1 0.5 9/out d"))
	for _, a := range wildInts {
		for _, b := range wildInts {
			wild := graphOf(recipeOf(g))
			wild.Nodes[3].In[0], wild.Out = a, b
			for _, f := range allOfGraph() {
				if some, e := f.call(wild); some && e != api.OK {
					t.Errorf("%s of %v: a result with the error %d", f.name, wild, e)
				}
			}
			recipe.Cone(g, a)
			for _, r := range []api.Region{region(a, b, 2, 1), region(0, 0, a, b), region(a, 0, b, 1), region(0, a, 2, b)} {
				f, e := recipe.Eval(g, r)
				if isSome(f) != (e == api.OK) {
					t.Errorf("Eval for %v: %v, error %d", r, f, e)
				}
				n, e := recipe.Cost(g, r)
				if n > 0 != (e == api.OK) {
					t.Errorf("Cost for %v: %d, error %d", r, n, e)
				}
			}
		}
	}
}

// G1: what is read ends, whatever the text is.
func TestWildTexts(t *testing.T) {
	n := &numbers{state: 16}
	words := []string{"a", "b", "=", "out", "#", "\t", "\n", "0", "1", "-1", "-0", "3", "1e1", "0.5", "\xff", "\r", "00", "999999999999999999999", "-", ".", "\x00", ""}
	words = append(words, allOps()...)
	right := 0
	for range 30000 {
		var text strings.Builder
		lines := []string{"a = noise 1 7 8 2 0.5", "b = kernel a 1 2", "c = blend a b a", "d = shift c -0 1", "out d"}
		for _, line := range lines {
			for _, word := range strings.Split(line, " ") {
				if n.between(0, 29) == 0 {
					word = pickOf(n, words...)
				}
				text.WriteString(word + " ")
			}
			text.WriteString(pickOf(n, "\n", "\n", "\n\n", "# \n", "\t\n"))
		}
		r, line, e := recipe.Parse(text.String())
		if isRecipe(r) != (e == api.OK) || line != 0 && e != api.ErrSyntax {
			t.Fatalf("Parse of %q: %v, line %d, error %d", text.String(), r, line, e)
		}
		if e == api.OK {
			right++
			back, e := recipe.Print(r)
			wantError(t, "Print", e, api.OK)
			wantParse(t, back, r)
		}
	}
	if right < 5000 {
		t.Error("too few texts are right:", right)
	}
}
