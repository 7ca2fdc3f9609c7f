package recipe_test

import (
	"slices"
	"testing"

	"tarnfell/api"
	"tarnfell/recipe"
)

// wantCompiled wants what is compiled to be the graph of the second text as it is.
func wantCompiled(t *testing.T, text, want string) {
	t.Helper()
	r := read(t, text)
	g, e := recipe.Compile(r)
	wantGraph(t, "Compile of "+text, g, e, graphOf(read(t, want)))
}

// P144, stage 1: the steps that Out hangs on, in order.
func TestCompileTakesWhatOutHangsOn(t *testing.T) {
	wantCompiled(t, "a = speckle 1 0.5/b = slope a/c = curve a/d = slope c/e = slope d/out d", "a = speckle 1 0.5/c = curve a/d = slope c/out d")
	wantCompiled(t, "a = speckle 1 0.5/b = speckle 2 0.5/out a", "a = speckle 1 0.5/out a")
	wantCompiled(t, "a = speckle 1 0.5/b = speckle 2 0.5/out b", "b = speckle 2 0.5/out b")
	wantCompiled(t, "a = const 1/out a", "a = const 1/out a")
	// An error of a step that Out does not hang on is that of the recipe nevertheless.
	r := read(t, "a = const 1/b = blur a 2/out a")
	r.Steps[1].Ints[0] = 17
	g, e := recipe.Compile(r)
	wantNothing(t, "Compile", isGraph(g), e, api.ErrRange)
}

// P144, stage 2: a node that is nothing but its input gives way to it.
func TestCompileLeavesOutWhatChangesNothing(t *testing.T) {
	for _, steps := range []string{
		"k = const 1/b = mul a k", "k = const 1/b = mul k a", "k = const 1/b = div a k", "k = const 0/b = sub a k", "k = const -0/b = add a k", "k = const -0/b = add k a",
		"b = less a a", "b = more a a", "b = shift a 0 0", "b = shift a -0 0", "b = blur a 0", "b = smooth a 0", "b = thermal a 0 0.5 0.125", "b = kernel a 1 1",
		"i = blur a 0/j = shift i 0 0/b = less j i", "i = const 2/j = const 2/k = div i j/b = mul k a", "i = const 0/j = const -1/k = mul i j/b = add a k", "i = const 5/j = sub i i/b = sub a j",
		"i = smooth a 0/j = smooth i 0/k = smooth j 0/b = smooth k 0", "i = less a a/b = more i a",
	} {
		wantCompiled(t, "a = speckle 1 0.5/"+steps+"/out b", "a = speckle 1 0.5/out a")
		wantCompiled(t, "a = speckle 1 0.5/"+steps+"/c = slope b/out c", "a = speckle 1 0.5/c = slope a/out c")
	}
	for _, steps := range []string{
		"k = const 1/b = div k a", "k = const 0/b = sub k a", "k = const -0/b = sub a k", "k = const 0/b = add a k", "k = const 0/b = add k a", "k = const -1/b = mul a k", "k = const 1.0000001/b = mul a k",
		"k = const 1/b = add a k", "k = const 0/b = mul a k", "k = const -1/b = div a k", "k = const 1/b = less a k", "k = const 1/b = more k a", "b = over a a", "b = add a a", "b = sub a a", "b = mul a a", "b = div a a",
		"b = shift a 0 1", "b = shift a 1 0", "b = blur a 1", "b = smooth a 1", "b = thermal a 1 0 0", "b = kernel a 1 -1", "b = kernel a 1 2", "b = kernel a 3 1 0 0 0 0 0 0 0 0", "b = kernel a 3 0 0 0 0 1 0 0 0 0",
		"b = scale a 1 0", "b = scale a 1 -0", "b = clamp a -9 9", "b = blend a a a", "b = stamp a 1 0 0 1 0", "b = fault a 1 0 0 0 0", "b = fold a 1 0 2 0", "b = warp a 1 2 3 1 0 0", "b = terrace a 1 0", "b = dither a 0 1",
	} {
		text := "a = speckle 1 0.5/" + steps + "/out b"
		wantCompiled(t, text, text)
	}
}

// P144, stage 3: what hangs on consts alone becomes a const, but not if this is an error.
func TestCompileWorksOut(t *testing.T) {
	for _, s := range []struct{ steps, want string }{
		{"c = add a b", "5"}, {"c = sub a b", "-1"}, {"c = mul a b", "6"}, {"c = div a b", "0.6666667"}, {"c = less a b", "2"}, {"c = more a b", "3"}, {"c = over a b", "0"}, {"c = over b a", "1"},
		{"c = scale a 0.1 0.1", "0.3"}, {"c = clamp a 5 6", "5"}, {"c = clamp a 0 1", "1"}, {"c = clamp a 0 9", "2"}, {"w = const 0.1/c = blend a b w", "2.1"}, {"c = select a 2 2 0", "1"}, {"c = select a 0 1 2", "0.5"},
		{"c = select a 3 4 0.5", "0"}, {"c = terrace a 3 0.5", "1.0000001"}, {"i = add a b/j = mul i i/c = sub j a", "23"}, {"i = const -0/c = mul a i", "-0"}, {"i = const 0/j = scale i -1 -0/c = less j j", "-0"},
		{"i = const 1048576/c = add i a", ""}, {"i = const 0/c = div a i", ""}, {"i = const -0/c = div a i", ""}, {"c = blend a b a", ""}, {"i = const -1e-45/c = blend a b i", ""}, {"i = const 1048576/c = scale i 2 0", ""},
		{"i = const 1048576/c = mul i i", ""}, {"i = const -1048576/c = sub i a", ""}, {"i = const 1e-45/c = div a i", ""},
	} {
		text := "a = const 2/b = const 3/" + s.steps + "/out c"
		g := compiled(t, read(t, text))
		if s.want == "" {
			if last := g.Nodes[g.Out]; last.Op == "const" || len(g.Nodes) < 2 {
				t.Errorf("Compile of %s: %v", text, g)
			}
			continue
		}
		wantCompiled(t, text, "c = const "+s.want+"/out c")
	}
	for _, steps := range []string{"c = dither a 0 0.5", "c = stamp a 1 0 0 9 1", "c = fault a 1 0 0 0 1", "c = fold a 1 0 2 1", "c = shift a 1 0", "c = blur a 1", "c = kernel a 1 3", "c = slope a", "c = curve a", "c = shade a 0 0 1", "c = thermal a 1 0 0.1", "c = smooth a 1", "c = warp a 1 2 3 4 0.5 1"} {
		text := "a = const 2/" + steps + "/out c"
		wantCompiled(t, text, text)
	}
	for _, steps := range []string{"c = add a b", "c = add b a", "c = blend a a b", "c = blend b a a", "c = blend a b a", "c = clamp b 0 1"} {
		text := "a = const 2/b = speckle 1 0.5/" + steps + "/d = more a c/out d"
		wantCompiled(t, text, text)
	}
}

// P144, stage 4: nodes that are the same, bit for bit, are one.
func TestCompileMakesOneOfTheSame(t *testing.T) {
	for _, s := range []struct{ text, want string }{
		{"a = speckle 1 0.5/b = speckle 1 0.5/c = add a b/out c", "a = speckle 1 0.5/c = add a a/out c"},
		{"a = speckle 1 0.5/b = speckle 1 0.5/c = less a b/out c", "a = speckle 1 0.5/out a"},
		{"a = speckle 1 0.5/b = slope a/c = speckle 1 0.5/d = slope c/e = sub b d/out e", "a = speckle 1 0.5/b = slope a/e = sub b b/out e"},
		{"a = noise 1 2 3 4 0.5/k = const 5/l = const 2/m = const 3/n = add l m/c = add a k/d = add a n/e = sub c d/out e", "a = noise 1 2 3 4 0.5/k = const 5/c = add a k/e = sub c c/out e"},
		{"a = noise 1 2 3 4 0.5/l = const 2/m = const 3/n = add l m/k = const 5/c = add a n/d = add a k/e = sub c d/out e", "a = noise 1 2 3 4 0.5/n = const 5/c = add a n/e = sub c c/out e"},
		{"a = speckle 1 0.5/k = const 3/z = const 0/c = div k z/d = div k z/e = add c d/f = add a e/out f", "a = speckle 1 0.5/k = const 3/z = const 0/c = div k z/e = add c c/f = add a e/out f"},
	} {
		wantCompiled(t, s.text, s.want)
	}
	for _, steps := range []string{
		"b = speckle 2 0.5", "b = speckle 1 0.50000006", "b = noise 1 2 3 4 0.5", "b = const 0", "b = const 1", "b = const -0",
	} {
		text := "a = speckle 1 0.5/" + steps + "/c = over a b/out c"
		wantCompiled(t, text, text)
	}
	for _, s := range []string{
		"c = add a b/d = add b a", "c = add a b/d = sub a b", "c = add a a/d = add b b", "c = shift a 1 2/d = shift a 2 1", "c = shift a 1 2/d = shift b 1 2", "c = shift a 1 2/d = shift a 1 -2", "c = shift a 11 2/d = shift a 1 12",
		"c = scale a 0 1/d = scale a -0 1", "c = scale a 1 2/d = scale a 2 1", "c = blend a b a/d = blend a a b", "c = slope a/d = curve a", "c = thermal a 1 0 0/d = thermal a 1 0 -0", "c = blur a 1/d = smooth a 1",
		"c = kernel a 3 1 0 0 0 0 0 0 0 0/d = kernel a 3 0 1 0 0 0 0 0 0 0", "c = stamp a 1 0 0 1 1/d = stamp a 1 0 1 1 1",
	} {
		text := "a = speckle 1 0.5/b = speckle 2 0.5/" + s + "/e = add c d/f = add e b/out f"
		wantCompiled(t, text, text)
	}
}

// P144, stage 5: what Out does not hang on any more is left out, also at the end.
func TestCompileLeavesOutTheRest(t *testing.T) {
	for _, s := range []struct{ text, want string }{
		{"a = speckle 1 0.5/k = const 1/b = mul a k/out b", "a = speckle 1 0.5/out a"},
		{"k = const 1/a = speckle 1 0.5/b = mul a k/out b", "a = speckle 1 0.5/out a"},
		{"k = const 1/a = speckle 1 0.5/b = mul a k/c = over b k/out c", "k = const 1/a = speckle 1 0.5/c = over a k/out c"},
		{"k = const 2/a = speckle 1 0.5/b = scale k 2 0/c = scale b 2 0/d = add a c/out d", "a = speckle 1 0.5/c = const 8/d = add a c/out d"},
		{"a = speckle 1 0.5/b = const 4/c = const 4/d = sub b c/e = sub a d/out e", "a = speckle 1 0.5/out a"},
	} {
		wantCompiled(t, s.text, s.want)
	}
}

// P144: by the document's stages, written down another time.
func TestCompileByRules(t *testing.T) {
	n := &numbers{state: 8}
	less := 0
	for range 6000 {
		r := recipeOf(n.graph(n.between(1, 14)))
		g, e := recipe.Compile(r)
		want := compileAgain(r)
		if e != api.OK || !sameGraph(g, want) {
			text, _ := recipe.Print(r)
			t.Fatalf("Compile of %s: %v, error %d; want %v", text, g, e, want)
		}
		wantError(t, "CheckGraph", recipe.CheckGraph(g), api.OK)
		if len(g.Nodes) < len(r.Steps) {
			less++
		}
		again := compiled(t, recipeOf(g))
		wantGraph(t, "Compile of what is compiled", again, api.OK, g)
	}
	if less < 3000 {
		t.Error("too few recipes become smaller:", less)
	}
}

// P144: Eval of what is compiled has the same bits as Plain, where Plain has no error. The recipes have many steps that fall away.
func TestCompiledIsPlain(t *testing.T) {
	n := &numbers{state: 9}
	right := 0
	ops := []string{"const", "const", "const", "speckle", "add", "sub", "mul", "div", "less", "more", "over", "scale", "clamp", "blend", "select", "terrace", "shift", "blur", "kernel", "thermal", "smooth"}
	for range 4000 {
		g := n.graph(n.between(1, 12))
		for i := range g.Nodes {
			if i > 0 && n.between(0, 2) > 0 {
				g.Nodes[i] = n.likely(pickOf(n, ops...), i)
			}
		}
		r := recipeOf(g)
		at := n.region(4)
		want, e := recipe.Plain(r, at)
		if e != api.OK {
			continue
		}
		right++
		f, e := recipe.Eval(compiled(t, r), at)
		wantField(t, "Eval", f, e, want)
	}
	if right < 2000 {
		t.Error("too few are without errors:", right)
	}
}

// P144: zeros keep their signs in all steps that are nothing but their input.
func TestZerosKeepTheirSigns(t *testing.T) {
	at := region(0, 0, 4, 1)
	zeros := "k = const -0/z = const 0/o = const 1/s = speckle 1 0.5/f = scale s 0 -0/a = scale s -1e-45 0/b = scale a 0.1 -0/"
	for _, step := range []string{"mul b o", "mul o b", "div b o", "sub b z", "add b k", "add k b", "less b b", "more b b", "shift b 0 0", "blur b 0", "smooth b 0", "thermal b 0 1 0.1", "kernel b 1 1"} {
		r := read(t, zeros+"c = "+step+"/out c")
		f, e := recipe.Plain(r, at)
		g, e2 := recipe.Eval(compiled(t, r), at)
		wantField(t, step, g, e2, f)
		r.Out = "b"
		want, e3 := recipe.Plain(r, at)
		wantField(t, step, f, e, want)
		wantError(t, step, e3, api.OK)
		if !slices.ContainsFunc(f.V, func(v float32) bool { return sameBits(v, minusZero) }) {
			t.Errorf("%s: no -0 in %v", step, f.V)
		}
	}
}
