package recipe_test

import (
	"math"
	"slices"
	"testing"

	"tarnfell/api"
	"tarnfell/recipe"
)

// P143, P146: by numbers that can be checked by hand.
func TestValues(t *testing.T) {
	for _, s := range []struct {
		text string
		at   api.Region
		want []float32
	}{
		{"a = const 3/out a", region(7, -9, 2, 3), []float32{3, 3, 3, 3, 3, 3}},
		{"a = const -0/out a", region(0, 0, 1, 1), []float32{minusZero}},
		{"a = const 3/b = const 5/c = sub a b/out c", region(0, 0, 1, 1), []float32{-2}},
		{"a = const 3/b = const 4/c = div a b/out c", region(0, 0, 1, 1), []float32{0.75}},
		{"a = const 3/b = const 5/c = mul a b/out c", region(0, 0, 1, 1), []float32{15}},
		{"a = const 3/b = const 5/c = add a b/out c", region(0, 0, 1, 1), []float32{8}},
		{"a = const 3/b = const 5/c = less a b/out c", region(0, 0, 1, 1), []float32{3}},
		{"a = const 3/b = const 5/c = more a b/out c", region(0, 0, 1, 1), []float32{5}},
		{"a = const 3/b = const 5/c = over a b/out c", region(0, 0, 1, 1), []float32{0}},
		{"a = const 3/b = const 5/c = over b a/out c", region(0, 0, 1, 1), []float32{1}},
		{"a = const 3/b = scale a 2 -1/out b", region(0, 0, 1, 1), []float32{5}},
		{"a = const 3/b = clamp a 4 9/out b", region(0, 0, 1, 1), []float32{4}},
		{"a = const 3/b = clamp a -4 2/out b", region(0, 0, 1, 1), []float32{2}},
		{"a = const 3/b = const 5/w = const 0.25/c = blend a b w/out c", region(0, 0, 1, 1), []float32{3.5}},
		{"a = const 3/b = select a 0 2 2/out b", region(0, 0, 1, 1), []float32{0.5}},
		{"a = const 3.75/b = terrace a 1 0.5/out b", region(0, 0, 1, 1), []float32{3.5}},
		{"a = const 3/b = dither a 1 0.5/out b", region(0, 0, 1, 1), []float32{3}},
		{"a = const 3/b = stamp a 1 1 1 1 2/out b", region(0, 0, 3, 2), []float32{3, 3, 3, 3, 5, 3}},
		{"a = const 3/b = fault a 1 0 -2 0 2/out b", region(0, 0, 4, 1), []float32{3, 3, 5, 5}},
		{"a = const 3/b = fold a 0 1 4 8/out b", region(0, 0, 1, 5), []float32{3, 7, 11, 7, 3}},
		{"a = const 3/b = stamp a 1 5 6 1 2/c = shift b 2 3/out c", region(2, 2, 3, 3), []float32{3, 3, 3, 3, 5, 3, 3, 3, 3}},
		{"a = const 0/b = stamp a 1 0 0 1 18/c = blur b 1/out c", region(0, 0, 3, 1), []float32{2, 2, 0}},
		{"a = const 0/b = stamp a 1 0 0 1 1/c = kernel b 3 1 2 3 4 5 6 7 8 9/out c", region(-1, -1, 3, 3), []float32{9, 8, 7, 6, 5, 4, 3, 2, 1}},
		{"a = const 0/b = fault a 1 0 0 0 8/c = slope b/out c", region(-2, 0, 4, 1), []float32{0, 4, 4, 0}},
		{"a = const 0/b = stamp a 1 0 0 1 8/c = curve b/out c", region(-1, 0, 4, 1), []float32{2, -8, 2, 0}},
		{"a = const 7/b = shade a 0 0 5/out b", region(0, 0, 2, 1), []float32{1, 1}},
		{"a = const 0/b = stamp a 1 0 0 1 8/c = thermal b 1 0 0.125/out c", region(-1, 0, 4, 1), []float32{1, 4, 1, 0}},
		{"a = const 0/b = stamp a 1 0 0 1 8/c = smooth b 1/out c", region(-1, 0, 4, 1), []float32{1, 4, 1, 0}},
		{"a = const 7/b = warp a 1 2 3 4 0.5 9/out b", region(0, 0, 1, 2), []float32{7, 7}},
	} {
		r := read(t, s.text)
		want := api.Field{Region: s.at, V: s.want}
		f, e := recipe.Plain(r, s.at)
		wantField(t, "Plain of "+s.text, f, e, want)
		f, e = recipe.Eval(graphOf(r), s.at)
		wantField(t, "Eval of "+s.text, f, e, want)
		f, e = recipe.Eval(compiled(t, r), s.at)
		wantField(t, "Eval of what is compiled of "+s.text, f, e, want)
	}
}

// P140, P143, P146: by the document's rules, written down another time, and with the errors of the first step that has one.
func TestEvalByRules(t *testing.T) {
	n := &numbers{state: 4}
	wrong := 0
	for range 4000 {
		g := n.graph(n.between(1, 9))
		if n.between(0, 3) == 0 {
			g.Nodes[0].Reals[0] = pickOf(n, top, -top, 1)
			if g.Nodes[0].Op != "const" {
				g.Nodes[0].Reals[0] = 1
			}
		}
		at := n.region(6)
		want, e := worked(g, at)
		if e != api.OK {
			wrong++
			wantWorkError(t, g, at, e)
			continue
		}
		l, e := recipe.All(g, at)
		if e != api.OK || !slices.EqualFunc(l, want, sameField) {
			t.Fatalf("All of %v for %v: error %d, %v; want %v", g, at, e, l, want)
		}
		f, e := recipe.Eval(g, at)
		wantField(t, "Eval", f, e, want[g.Out])
		f, e = recipe.Plain(recipeOf(g), at)
		wantField(t, "Plain", f, e, want[g.Out])
	}
	if wrong < 100 {
		t.Error("too few graphs have errors:", wrong)
	}
}

func wantWorkError(t *testing.T, g api.Graph, at api.Region, want api.Errno) {
	t.Helper()
	l, e := recipe.All(g, at)
	wantNothing(t, "All", len(l) > 0, e, want)
	f, e := recipe.Eval(g, at)
	wantNothing(t, "Eval", isSome(f), e, want)
	f, e = recipe.Plain(recipeOf(g), at)
	wantNothing(t, "Plain", isSome(f), e, want)
	if n, e := recipe.Cost(g, at); e != api.OK || n == 0 {
		t.Error("Cost", n, e)
	}
}

// P143, P146: errors of steps; those that Out does not hang on have none.
func TestStepErrors(t *testing.T) {
	at := region(0, 0, 3, 3)
	for _, text := range []string{
		"a = const 3/b = const 0/c = div a b",
		"a = const 3/b = const -0/c = div a b",
		"a = const 1048576/b = const 1/c = add a b",
		"a = const 1048576/b = const -1/c = sub a b",
		"a = const 1048576/b = const 1.1/c = mul a b",
		"a = const 3/b = const 1e-45/c = div a b",
		"a = const 1048576/c = scale a 1 0.25",
		"a = const 1048576/c = stamp a 1 1 1 1 1",
		"a = const 1048576/c = fault a 1 0 -2 0 1",
		"a = const 1048576/c = fold a 1 0 3 1",
		"a = const 1048576/c = kernel a 1 1.5",
		"a = const 3/b = const 1.0000001/c = blend a a b",
		"a = const 3/b = const -1e-45/c = blend a a b",
	} {
		r := read(t, text+"/d = const 7/e = slope c/out c")
		wantWorkError(t, graphOf(r), at, api.ErrRange)
		r.Out = "e"
		wantWorkError(t, graphOf(r), at, api.ErrRange)
		r.Out = "d"
		f, e := recipe.Plain(r, at)
		wantField(t, "Plain of a step beside an error", f, e, api.Field{Region: at, V: slices.Repeat([]float32{7}, 9)})
		f, e = recipe.Eval(graphOf(r), at)
		wantField(t, "Eval of a node beside an error", f, e, api.Field{Region: at, V: slices.Repeat([]float32{7}, 9)})
	}
	// The dearest cell of the first step is just beyond what the second one asks for.
	r := read(t, "a = const 1048576/b = stamp a 1 9 0 1 1/c = slope b/out c")
	f, e := recipe.Plain(r, region(0, 0, 8, 1))
	wantField(t, "Plain", f, e, api.Field{Region: region(0, 0, 8, 1), V: make([]float32, 8)})
	f, e = recipe.Plain(r, region(0, 0, 9, 1))
	wantNothing(t, "Plain with a cell more", isSome(f), e, api.ErrRange)
}

// P143, P146: the errors of the region come behind those of the recipe, and ahead of those of steps.
func TestRegionErrors(t *testing.T) {
	divided := "a = const 3/b = const 0/c = div a b/"
	for _, s := range []struct {
		text string
		at   api.Region
		want api.Errno
	}{
		{divided + "d = blur c 3/out d", api.Region{}, api.ErrRange},
		{divided + "d = blur c 3/out d", region(0, 0, 513, 1), api.ErrRange},
		{divided + "d = blur c 3/out d", region(0, 0, 512, 129), api.ErrLarge},
		{divided + "d = blur c 3/out d", region(-api.MaxPlace-1, 0, 1, 1), api.ErrPlace},
		{divided + "d = blur c 3/out d", region(0, api.MaxPlace, 1, 1), api.ErrPlace},
		{divided + "d = blur c 3/out d", region(math.MaxInt, math.MinInt, 1, 1), api.ErrPlace},
		{divided + "d = blur c 3/out d", region(0, 0, 507, 1), api.ErrRange},
		{divided + "d = blur c 3/out d", region(0, 0, 1, 507), api.ErrRange},
		{divided + "d = blur c 3/out d", region(0, 0, 256, 256), api.ErrLarge},
		{divided + "d = blur c 3/out d", region(-api.MaxPlace+2, 0, 1, 1), api.ErrPlace},
		{divided + "d = blur c 3/out d", region(0, api.MaxPlace-3, 1, 1), api.ErrPlace},
		{divided + "d = blur c 0/out d", region(0, api.MaxPlace-1, 1, 1), api.ErrRange},
		{"a = const 3/b = blur a 3/out b", region(-api.MaxPlace+3, api.MaxPlace-4, 1, 1), api.OK},
		{"a = const 3/b = blur a 3/out b", region(-api.MaxPlace+3, api.MaxPlace-6, 506, 3), api.OK},
		{"a = const 3/b = smooth a 64/c = smooth b 64/d = smooth c 64/e = smooth d 8/out e", region(0, 0, 1, 1), api.ErrLarge},
		{"a = const 3/b = smooth a 64/c = smooth b 63/out c", region(0, 0, 2, 2), api.OK},
		{"a = const 3/b = smooth a 64/c = smooth b 64/d = smooth c 64/e = smooth d 9/out e", region(0, 0, 1, 1), api.ErrRange},
		{"a = const 3/b = smooth a 64/c = smooth b 64/d = smooth c 64/e = smooth d 9/out e", region(0, 0, 0, 1), api.ErrRange},
		{"a = const 3/b = smooth a 64/c = smooth b 64/d = smooth c 64/e = smooth d 9/out e", region(api.MaxPlace, 0, 1, 1), api.ErrPlace},
		{"a = const 3/b = smooth a 64/c = smooth b 64/d = smooth c 64/e = smooth d 9/out a", region(0, 0, 1, 1), api.OK},
		{"a = const 3/b = warp a 3 1 9 10 1 64/out b", region(0, 0, 1, 1), api.ErrRange},
	} {
		r := read(t, s.text)
		g := graphOf(r)
		f, e := recipe.Plain(r, s.at)
		wantNothing(t, "Plain of "+s.text, isSome(f) && e != api.OK, e, s.want)
		f, e = recipe.Eval(g, s.at)
		wantNothing(t, "Eval of "+s.text, isSome(f) && e != api.OK, e, s.want)
		l, e := recipe.All(g, s.at)
		wantNothing(t, "All of "+s.text, len(l) > 0 && e != api.OK, e, s.want)
		if s.text == divided+"d = blur c 0/out d" {
			continue // the error is that of a node
		}
		n, e := recipe.Cost(g, s.at)
		wantNothing(t, "Cost of "+s.text, n != 0 && e != api.OK, e, s.want)
	}
	g := graphOf(read(t, "a = const 3/out a"))
	g.Nodes[0].Reals[0] = nan
	bad := region(0, 0, 0, 0)
	f, e := recipe.Eval(g, bad)
	wantNothing(t, "Eval", isSome(f), e, api.ErrForm)
	f, e = recipe.Plain(recipeOf(g), bad)
	wantNothing(t, "Plain", isSome(f), e, api.ErrForm)
	l, e := recipe.All(g, bad)
	wantNothing(t, "All", len(l) > 0, e, api.ErrForm)
	n, e := recipe.Cost(g, bad)
	wantNothing(t, "Cost", n != 0, e, api.ErrForm)
}

// P143: the margin of MaxMargin is right, one more is not, however it comes about.
func TestGreatestMargin(t *testing.T) {
	at := region(0, 0, 1, 1)
	for _, s := range []struct {
		text   string
		margin int
	}{
		{"a = const 3/b = warp a 1 1 9 1 0.5 64/c = smooth b 64/d = smooth c 64/e = blur d 7/out e", 200},
		{"a = const 3/b = warp a 1 1 9 1 0.5 64/c = smooth b 64/d = smooth c 64/e = blur d 8/out e", 201},
		{"a = const 3/b = blur a 7/c = smooth b 64/d = smooth c 64/e = warp d 1 1 9 1 0.5 64/out e", 200},
		{"a = const 3/b = blur a 8/c = smooth b 64/d = smooth c 64/e = warp d 1 1 9 1 0.5 64/out e", 201},
		{"a = const 3/b = blur a 16/c = smooth b 64/d = smooth c 64/e = smooth d 56/f = add a e/out f", 200},
		{"a = const 3/b = blur a 16/c = smooth b 64/d = smooth c 64/e = smooth d 57/f = add a e/out f", 201},
	} {
		r := read(t, s.text)
		m, e := recipe.Margin(graphOf(r))
		if e != api.OK || m != s.margin {
			t.Errorf("Margin of %s: %d, error %d", s.text, m, e)
		}
		want := api.ErrLarge // that of field.Grow: 401 * 401 cells
		if s.margin > api.MaxMargin {
			want = api.ErrRange
		}
		f, e := recipe.Plain(r, at)
		wantNothing(t, "Plain of "+s.text, isSome(f), e, want)
		f, e = recipe.Eval(graphOf(r), at)
		wantNothing(t, "Eval of "+s.text, isSome(f), e, want)
	}
}

// P145, P146: Needs, Margin, Cone and Cost, by way of all ways.
func TestNeedsByRules(t *testing.T) {
	n := &numbers{state: 5}
	for range 600 {
		g := n.graph(n.between(1, 11))
		at := n.region(9)
		want := needsOf(g)
		l, e := recipe.Needs(g)
		if e != api.OK || !slices.Equal(l, want) {
			t.Fatalf("Needs of %v: %v, error %d; want %v", g, l, e, want)
		}
		m, e := recipe.Margin(g)
		if e != api.OK || m != deepest(g, g.Out) {
			t.Fatalf("Margin of %v: %d, error %d; want %d", g, m, e, deepest(g, g.Out))
		}
		cells := 0
		for _, need := range want {
			if need >= 0 {
				cells += (at.W + 2*need) * (at.H + 2*need)
			}
		}
		c, e := recipe.Cost(g, at)
		if e != api.OK || c != cells {
			t.Fatalf("Cost of %v for %v: %d, error %d; want %d", g, at, c, e, cells)
		}
		for node := range g.Nodes {
			var cone []int
			for k := range g.Nodes {
				if needOf(g, node, k) >= 0 {
					cone = append(cone, k)
				}
			}
			l, e := recipe.Cone(g, node)
			if e != api.OK || !slices.Equal(l, cone) {
				t.Fatalf("Cone of %d in %v: %v, error %d; want %v", node, g, l, e, cone)
			}
		}
	}
}

// P145: by hand: the greatest sum counts, nodes that Out does not hang on have -1, also in the cone of another node.
func TestNeeds(t *testing.T) {
	r := read(t, "a = const 1/b = blur a 5/c = shift a -2 3/d = add b c/e = kernel d 3 0 0 0 0 1 0 0 0 0/f = blend a e c/g = slope f/h = smooth a 9/out f")
	g := graphOf(r)
	l, e := recipe.Needs(g)
	if want := []int{6, 1, 1, 1, 0, 0, -1, -1}; e != api.OK || !slices.Equal(l, want) {
		t.Errorf("Needs: %v, error %d; want %v", l, e, want)
	}
	m, e := recipe.Margin(g)
	if e != api.OK || m != 6 {
		t.Errorf("Margin: %d, error %d", m, e)
	}
	c, e := recipe.Cost(g, region(3, 3, 10, 1))
	if want := 22*13 + 3*12*3 + 2*10; e != api.OK || c != want {
		t.Errorf("Cost: %d, error %d; want %d", c, e, want)
	}
	for node, want := range [][]int{{0}, {0, 1}, {0, 2}, {0, 1, 2, 3}, {0, 1, 2, 3, 4}, {0, 1, 2, 3, 4, 5}, {0, 1, 2, 3, 4, 5, 6}, {0, 7}} {
		l, e := recipe.Cone(g, node)
		if e != api.OK || !slices.Equal(l, want) {
			t.Errorf("Cone of %d: %v, error %d; want %v", node, l, e, want)
		}
	}
	for _, node := range []int{-1, 8, math.MaxInt, math.MinInt} {
		l, e := recipe.Cone(g, node)
		wantNothing(t, "Cone", len(l) > 0, e, api.ErrNone)
	}
	g.Nodes[7].Ints = nil
	l, e = recipe.Cone(g, -1)
	wantNothing(t, "Cone of a wrong graph", len(l) > 0, e, api.ErrForm)
}

// P146: a node that no other one hangs on but Out makes Margin greater only if Out hangs on it.
func TestMarginOfOut(t *testing.T) {
	for _, s := range []struct {
		text string
		want int
	}{
		{"a = const 1/out a", 0}, {"a = const 1/b = blur a 4/out b", 4}, {"a = const 1/b = blur a 4/out a", 0}, {"a = const 1/b = blur a 4/c = slope a/out c", 1},
		{"a = noise 1 2 3 4 0.5/b = shift a 9 0/c = shift b 0 9/out c", 18},
	} {
		m, e := recipe.Margin(graphOf(read(t, s.text)))
		if e != api.OK || m != s.want {
			t.Errorf("Margin of %s: %d, error %d; want %d", s.text, m, e, s.want)
		}
	}
}

// P146, P264: what a graph makes of two regions is the same, bit for bit, where they overlap; a part of a region has no error that the region has not.
func TestOverlaps(t *testing.T) {
	n := &numbers{state: 6}
	for range 400 {
		g := n.graph(n.between(1, 12))
		all := n.region(20)
		whole, e := recipe.Eval(g, all)
		for range 5 {
			r := region(n.between(all.X-9, all.X+all.W-1), n.between(all.Y-9, all.Y+all.H-1), n.between(1, 9), n.between(1, 9))
			inside := r.X >= all.X && r.Y >= all.Y && r.X+r.W <= all.X+all.W && r.Y+r.H <= all.Y+all.H
			f, partError := recipe.Eval(g, r)
			if e != api.OK {
				break
			}
			if partError != api.OK {
				if inside {
					t.Errorf("Eval of %v for %v: error %d; none for %v", g, r, partError, all)
				}
				continue
			}
			x, y := max(r.X, all.X), max(r.Y, all.Y)
			both := region(x, y, min(r.X+r.W, all.X+all.W)-x, min(r.Y+r.H, all.Y+all.H)-y)
			if both.W > 0 && both.H > 0 {
				wantField(t, "Eval", partOf(f, both), api.OK, partOf(whole, both))
			}
		}
	}
}

// P263: a shift at the end of a recipe is the recipe at another place.
func TestShiftAtTheEnd(t *testing.T) {
	n := &numbers{state: 7}
	right := 0
	for range 300 {
		g := n.graph(n.between(1, 10))
		dx, dy := n.between(-64, 64), n.between(-64, 64)
		moved := api.Graph{Nodes: append(slices.Clone(g.Nodes), api.Node{Op: "shift", In: []int{g.Out}, Ints: []int{dx, dy}}), Out: len(g.Nodes)}
		at := n.region(7)
		f, e := recipe.Plain(recipeOf(moved), at)
		if e != api.OK {
			continue
		}
		right++
		want, e := recipe.Plain(recipeOf(g), region(at.X+dx, at.Y+dy, at.W, at.H))
		want.Region = at
		wantError(t, "Plain at the other place", e, api.OK)
		wantField(t, "Plain of the shift", f, api.OK, want)
		f, e = recipe.Eval(compiled(t, recipeOf(moved)), at)
		wantField(t, "Eval of the shift", f, e, want)
	}
	if right < 100 {
		t.Error("too few are without errors:", right)
	}
}
