package recipe_test

import (
	"testing"

	"tarnfell/api"
	"tarnfell/field"
	"tarnfell/recipe"
)

// P265: a terrain that is printed and read again has the same bits and the same sums.
func TestTerrainIsReadAgain(t *testing.T) {
	n := &numbers{state: 17}
	for range 200 {
		g := n.graph(n.between(1, 12))
		f, e := recipe.Eval(g, n.region(12))
		if e != api.OK {
			continue
		}
		text, e := field.Print(f)
		wantError(t, "field.Print", e, api.OK)
		back, _, e := field.Parse(text)
		wantField(t, "field.Parse", back, e, f)
		for _, how := range []int{api.SumRows, api.SumPairs, api.SumKept} {
			a, _ := field.Sum(f, how)
			b, e := field.Sum(back, how)
			if e != api.OK || !sameBits(a, b) {
				t.Errorf("the sum %d of %v is %v, then %v", how, g, a, b)
			}
		}
	}
}

// P142 to P146: a recipe that is printed, read, and compiled is the recipe word by word, cell by cell in regions of one cell, too.
func TestWholeWay(t *testing.T) {
	r := read(t, "base = noise 2 7 16 4 0.5/ridge = noise 4 8 24 3 0.5/w = speckle 3 0.5/soft = blur w 2/hills = blend base ridge soft/up = scale hills 40 3/"+
		"worn = thermal up 4 0.5 0.125/moved = warp worn 1 9 12 2 0.5 5/steps = terrace moved 2 0.25/high = fault steps 3 -1 4 6 5/bent = fold high 1 2 40 3/top = stamp bent 3 4 5 9 6/"+
		"light = shade top -1 -1 2/dark = scale light -0.1 1/all = mul top dark/out all")
	at := region(-7, 3, 12, 9)
	want, e := recipe.Plain(r, at)
	wantError(t, "Plain", e, api.OK)
	text, _ := recipe.Print(r)
	g := compiled(t, read(t, text))
	f, e := recipe.Eval(g, at)
	wantField(t, "Eval", f, e, want)
	for i := range at.W * at.H {
		cell := region(at.X+i%at.W, at.Y+i/at.W, 1, 1)
		f, e := recipe.Eval(g, cell)
		wantField(t, "Eval of a cell", f, e, partOf(want, cell))
	}
	known, e := worked(graphOf(r), at)
	wantField(t, "the rules", known[len(known)-1], e, want)
}

// The longest recipes end soon for the largest regions, also at the ends of all places.
func TestLargest(t *testing.T) {
	g := api.Graph{Nodes: []api.Node{right("noise")}, Out: api.MaxSteps - 1}
	ops := []string{"stamp", "less", "fault", "dither", "more", "fold", "terrace", "select", "scale", "over", "clamp"}
	for i := 1; i < api.MaxSteps; i++ {
		n := right(ops[i%len(ops)])
		for k := range n.In {
			n.In[k] = max(0, i-1-k)
		}
		g.Nodes = append(g.Nodes, n)
	}
	for _, at := range []api.Region{region(-api.MaxPlace, api.MaxPlace-128, 512, 128), region(api.MaxPlace-256, -api.MaxPlace, 256, 256)} {
		c, e := recipe.Cost(g, at)
		if e != api.OK || c != at.W*at.H*api.MaxSteps {
			t.Fatal("Cost", c, e)
		}
		f, e := recipe.Eval(g, at)
		if e != api.OK || f.Region != at || len(f.V) != at.W*at.H {
			t.Error("Eval", f.Region, e)
		}
		want, e := recipe.Plain(recipeOf(g), at)
		wantField(t, "Plain", f, e, want)
		h, e := recipe.Eval(compiled(t, recipeOf(g)), at)
		wantField(t, "Eval of what is compiled", h, e, want)
	}
	// Each node hangs on the one before twice, so that there are 2^199 ways.
	g = api.Graph{Nodes: []api.Node{right("noise")}, Out: api.MaxSteps - 1}
	for i := 1; i < api.MaxSteps; i++ {
		g.Nodes = append(g.Nodes, api.Node{Op: "less", In: []int{i - 1, i - 1}})
	}
	g.Nodes[199] = api.Node{Op: "slope", In: []int{198}}
	m, e := recipe.Margin(g)
	if e != api.OK || m != 1 {
		t.Error("Margin", m, e)
	}
	if c := compiled(t, recipeOf(g)); len(c.Nodes) != 2 {
		t.Error("Compile", c)
	}
}
