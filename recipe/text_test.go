package recipe_test

import (
	"math"
	"slices"
	"strconv"
	"strings"
	"testing"

	"tarnfell/api"
	"tarnfell/field"
	"tarnfell/recipe"
)

// P142: the text of a recipe of all Ops.
const allText = `Hills = noise 2 7 64 5 0.5
x = const -0
y_1 = speckle 4294967295 0.25
a = add Hills x
b = sub a Hills
c = mul a b
d = div c x
e = less d a
f = more a d
g = over f e
h = scale g 1e-45 -1.048576e+06
i = clamp h -1 1e+06
j = blend a b g
k = select j 0 0.1 0.3
l = terrace k 0.0009765625 0
m = dither l 0 1
n = stamp m 3 -4194304 4194304 256 -5
o = fault n -1000 0 -1099511627776 4096 0.125
p = fold o 0 -1 16777216 2.5
q = shift p -64 64
r = blur q 16
s = kernel r 3 1 2 1 2 -0 2 1 2 1
t = slope s
u = curve t
v = shade u -1 0 1000
w = thermal v 64 0.05 0.125
z = smooth w 0
W = warp z 4 0 1 10 1 64
out j
`

func allSteps() api.Recipe {
	s := func(name, op string, in []string, ints []int, reals ...float32) api.Step {
		return api.Step{Name: name, Op: op, In: in, Ints: ints, Reals: reals}
	}
	in := func(names ...string) []string { return names }
	ints := func(l ...int) []int { return l }
	return api.Recipe{Steps: []api.Step{
		s("Hills", "noise", nil, ints(2, 7, 64, 5), 0.5), s("x", "const", nil, nil, minusZero), s("y_1", "speckle", nil, ints(math.MaxUint32), 0.25),
		s("a", "add", in("Hills", "x"), nil), s("b", "sub", in("a", "Hills"), nil), s("c", "mul", in("a", "b"), nil), s("d", "div", in("c", "x"), nil),
		s("e", "less", in("d", "a"), nil), s("f", "more", in("a", "d"), nil), s("g", "over", in("f", "e"), nil), s("h", "scale", in("g"), nil, tiny, -top),
		s("i", "clamp", in("h"), nil, -1, 1000000), s("j", "blend", in("a", "b", "g"), nil), s("k", "select", in("j"), nil, 0, 0.1, 0.3),
		s("l", "terrace", in("k"), nil, 0x1p-10, 0), s("m", "dither", in("l"), ints(0), 1), s("n", "stamp", in("m"), ints(3, -api.MaxPlace, api.MaxPlace, 256), -5),
		s("o", "fault", in("n"), ints(-1000, 0, -1<<40, 4096), 0.125), s("p", "fold", in("o"), ints(0, -1, 1<<24), 2.5), s("q", "shift", in("p"), ints(-64, 64)),
		s("r", "blur", in("q"), ints(16)), s("s", "kernel", in("r"), ints(3), 1, 2, 1, 2, minusZero, 2, 1, 2, 1), s("t", "slope", in("s"), nil), s("u", "curve", in("t"), nil),
		s("v", "shade", in("u"), ints(-1, 0, 1000)), s("w", "thermal", in("v"), ints(64), 0.05, 0.125), s("z", "smooth", in("w"), ints(0)),
		s("W", "warp", in("z"), ints(4, 0, 1, 10), 1, 64),
	}, Out: "j"}
}

func wantParse(t *testing.T, text string, want api.Recipe) {
	t.Helper()
	r, n, e := recipe.Parse(text)
	if e != api.OK || n != 0 || !sameRecipe(r, want) {
		t.Errorf("Parse of %.300q: %v, line %d, error %d; want %v", text, r, n, e, want)
	}
}

func wantNoParse(t *testing.T, text string, line int, want api.Errno) {
	t.Helper()
	r, n, e := recipe.Parse(text)
	if e != want || n != line || isRecipe(r) {
		t.Errorf("Parse of %.300q: %v, line %d, error %d; want line %d, error %d", text, r, n, e, line, want)
	}
}

// P142: Print writes the text, and Parse reads it.
func TestTextOfAllOps(t *testing.T) {
	s, e := recipe.Print(allSteps())
	if e != api.OK || s != allText {
		t.Errorf("Print: %q, error %d", s, e)
	}
	wantParse(t, allText, allSteps())
	wantParse(t, strings.TrimSuffix(allText, "\n"), allSteps())
}

// P142: blanks are as many as one likes, what follows a # does not count, and empty lines are passed over.
func TestBlanks(t *testing.T) {
	want := api.Recipe{Steps: []api.Step{{Name: "a", Op: "const", Reals: []float32{1}}, {Name: "b", Op: "blur", In: []string{"a"}, Ints: []int{2}}}, Out: "b"}
	for _, text := range []string{
		"a = const 1\nb = blur a 2\nout b\n",
		"a = const 1\nb = blur a 2\nout b",
		"  a\t=  \t const\t1 \t\n\tb = blur  a   2\t\n \tout \t b \t ",
		"\n\n \t\na = const 1\n\n \nb = blur a 2\n\t\nout b\n\n \n",
		"# a = const 9\na = const 1# = x\nb = blur a 2 # \xff\n#\nout b#out a\n# the end",
		"#\n##\na = const 1 ## #\nb = blur a 2\nout b ##\n #\n",
		"a = const 1.0\nb = blur a 2\nout b\n",
		"a = const 001e-0\nb = blur a 2\nout b\n",
		"a = const 0.1e+001#\nb = blur a 2\nout b\n",
	} {
		wantParse(t, text, want)
	}
}

// P142: each error of a line, with its number.
func TestWrongLines(t *testing.T) {
	for _, line := range []string{
		"a", "=", "a =", "a = ", "a const 1", "a=const 1", "a =const 1", "a= const 1", "= const 1", "a == const 1", "a = = const 1", "a = const",
		"a = const 1 1", "a = const 1 x", "a = const x", "a = const c", "a = nope", "a = nope 1", "a = CONST 1", "a = Const 1", "a = out", "a = a", "a = # const 1",
		"out", "out a b", "out = nope 1", "out a =", "outs a", "a out", "const 1", "a = const 1 = 1", "a = const\r1", "a = const\v1", "a = const\xa01", "a = const 1\r", "\r", "\x00", "\v",
		"a = const +1", "a = const .5", "a = const 1.", "a = const 1e", "a = const 1e1000", "a = const nan", "a = const inf", "a = const 0x1", "a = const 1_0", "a = const --1",
		"a = const 1048576.125", "a = const -1048577", "a = const 9e9", "a = const 1e39", "a = const " + strings.Repeat("0", 101),
		"a = noise 1 7 8 2", "a = noise 1 7 8 2 0.5 1", "a = noise 1 7 8 2.0 0.5", "a = noise 1 7 8 x 0.5", "a = noise 1 7 8 1e1 0.5", "a = noise", "a = noise 1 7 8", "a = noise 01 7 8 2 0.5",
		"a = noise 1 +7 8 2 0.5", "a = noise 1 00 8 2 0.5", "a = noise 1 -00 8 2 0.5", "a = noise 1 -07 8 2 0.5", "a = noise 1 - 8 2 0.5", "a = noise 1 --7 8 2 0.5", "a = noise 1 7_0 8 2 0.5",
		"a = noise 1 9223372036854775808 8 2 0.5", "a = noise 1 -9223372036854775809 8 2 0.5", "a = noise 1 99999999999999999999 8 2 0.5", "a = noise 1 0x7 8 2 0.5",
		"a = slope", "a = slope c c", "a = slope c 1", "a = add c", "a = add c c c", "a = add c c 1", "a = blend c c", "a = blend c c c c", "a = blend c c c 1",
		"a = shift c 1", "a = shift c 1 1 1", "a = blur c", "a = blur", "a = blur c 1.5", "a = blur c c", "a = scale c 1", "a = scale 1 1", "a = select c 0 1", "a = thermal c 3 0.1", "a = thermal c 0.1 0.1 3",
		"a = kernel", "a = kernel c", "a = kernel c x", "a = kernel c 1", "a = kernel c 1 2 3", "a = kernel c 3 1 2 3 4 5 6 7 8", "a = kernel c 3 1 2 3 4 5 6 7 8 9 10", "a = kernel c 3 1 2 3 4 5 6 7 8 x",
		"a = kernel c 2 1", "a = kernel c 2 1 2 3 4", "a = kernel c 0 1", "a = kernel c -1 1", "a = kernel c 17 1", "a = kernel c 1 9e9", "a = kernel c 1.0 1", "a = kernel c 01 1", "a = kernel c 3 3" + strings.Repeat(" 1", 7),
		"a = kernel c 4294967297 1", "a = kernel 1 2 3",
	} {
		wantNoParse(t, line+"\nout a\n", 0, api.ErrSyntax)
		wantNoParse(t, "c = const 1\n\n# x\n"+line+"\nout a\n", 3, api.ErrSyntax)
		wantNoParse(t, "c = const 1\n"+line, 1, api.ErrSyntax)
	}
}

// P142: nothing follows the out line but empty lines, and there is one.
func TestOutLine(t *testing.T) {
	wantNoParse(t, "", 0, api.ErrSyntax)
	wantNoParse(t, " ", 1, api.ErrSyntax)
	wantNoParse(t, "\n", 1, api.ErrSyntax)
	wantNoParse(t, "\n\n#x", 3, api.ErrSyntax)
	wantNoParse(t, "a = const 1", 1, api.ErrSyntax)
	wantNoParse(t, "a = const 1\n", 1, api.ErrSyntax)
	wantNoParse(t, "a = const 1\n\n", 2, api.ErrSyntax)
	wantNoParse(t, "a = const 1\n#out a", 2, api.ErrSyntax)
	for _, line := range []string{"out a", "b = const 1", "x", "out", "a = const 1", "out b # b"} {
		wantNoParse(t, "a = const 1\nout a\n"+line, 2, api.ErrSyntax)
		wantNoParse(t, "a = const 1\nout a\n\n # \n"+line+"\n", 4, api.ErrSyntax)
		wantNoParse(t, "a = const 1\n\nout x\n"+line+"\n\n", 3, api.ErrSyntax)
	}
}

// P142: Check's errors come behind ErrSyntax of all lines; their line is 0.
func TestParseChecks(t *testing.T) {
	for _, s := range []struct {
		text string
		want api.Errno
	}{
		{"out a", api.ErrEmpty},
		{"\n\nout a\n", api.ErrEmpty},
		{"a = const 1\nout b\n", api.ErrName},
		{"a = const 1\nout 1\n", api.ErrName},
		{"a = const 1\nout =\n", api.ErrName},
		{"a = const 1\nout out\n", api.ErrName},
		{"1 = const 1\nout 1\n", api.ErrName},
		{"= = const 1\nout =\n", api.ErrName},
		{"out = const 1\nout out\n", api.ErrName},
		{"a = const 1\na = const 1\nout a\n", api.ErrTwice},
		{"a = slope a\nout a\n", api.ErrName},
		{"a = slope 1\nout a\n", api.ErrName},
		{"a = slope =\nout a\n", api.ErrName},
		{"a = const 1\nb = clamp a 2 1\nout b\n", api.ErrOrder},
		{"a = const 1\nb = blur a 17\nout b\n", api.ErrRange},
		{"a = const 1\nb = blur a -9223372036854775808\nout b\n", api.ErrRange},
		{"a = const 1\nb = blur a 9223372036854775807\nout b\n", api.ErrRange},
		{"a = noise 5 0 8 2 0.5\nout a\n", api.ErrKind},
		{"a = noise -0 0 8 2 0.5\nout a\n", api.ErrKind},
		{"a = noise 1 -1 8 2 0.5\nout a\n", api.ErrRange},
		{"a = noise 1 4294967296 8 2 0.5\nout a\n", api.ErrRange},
		{"a = const 1\nb = kernel a 2\nout b\n", api.ErrRange},
		{"a = const 1\nb = kernel a 0\nout b\n", api.ErrRange},
		{"a = const 1\nb = kernel a -0\nout b\n", api.ErrRange},
		{"a = const 1\nb = kernel a -1\nout b\n", api.ErrRange},
		{"a = const 1\nb = kernel a 17\nout b\n", api.ErrRange},
		{"a = const 1\nb = kernel a 4294967297\nout b\n", api.ErrRange},
		{"a = const 1\nb = fault a 0 0 0 0 1\nout b\n", api.ErrConflict},
		{"a = const 1\nb = stamp a 1 4194305 0 1 1\nout b\n", api.ErrPlace},
	} {
		wantNoParse(t, s.text, 0, s.want)
		wantNoParse(t, s.text+"\nx\n", strings.Count(s.text, "\n")+1, api.ErrSyntax)
	}
	wantParse(t, "a = const 1\nb = shift a -0 -0\nout b\n", api.Recipe{Steps: []api.Step{{Name: "a", Op: "const", Reals: []float32{1}}, {Name: "b", Op: "shift", In: []string{"a"}, Ints: []int{0, 0}}}, Out: "b"})
	many := func(steps int) string {
		var text strings.Builder
		for i := range steps {
			text.WriteString("a" + strconv.Itoa(i) + " = const 1\n")
		}
		return text.String() + "out a0\n"
	}
	wantNoParse(t, many(201), 0, api.ErrLarge)
	if r, _, e := recipe.Parse(many(200)); e != api.OK || len(r.Steps) != 200 {
		t.Error("200 steps", len(r.Steps), e)
	}
}

// P142: a text has at most 65536 bytes; more are ErrLarge, ahead of ErrSyntax.
func TestLongTexts(t *testing.T) {
	start := "a = const 1\nout a\n#"
	want := api.Recipe{Steps: []api.Step{{Name: "a", Op: "const", Reals: []float32{1}}}, Out: "a"}
	wantParse(t, start+strings.Repeat("x", 1<<16-len(start)), want)
	wantNoParse(t, start+strings.Repeat("x", 1<<16-len(start)+1), 0, api.ErrLarge)
	wantNoParse(t, strings.Repeat("x", 1<<16), 0, api.ErrSyntax)
	wantNoParse(t, strings.Repeat("x", 1<<16+1), 0, api.ErrLarge)
	wantNoParse(t, strings.Repeat("\n", 1<<16), 1<<16, api.ErrSyntax)
	wantParse(t, strings.Repeat("\n", 1<<16-len(start))+start, want)
}

// P142: what is printed is read, with all its bits; what was read is printed as Print writes it.
func TestPrintIsRead(t *testing.T) {
	n := &numbers{state: 2}
	for range 300 {
		g := n.graph(n.between(1, 12))
		for i := range g.Nodes {
			if g.Nodes[i].Op == "const" {
				g.Nodes[i].Reals[0] = n.height()
			}
		}
		r := recipeOf(g)
		text, e := recipe.Print(r)
		wantError(t, "Print", e, api.OK)
		wantParse(t, text, r)
		if want := printed(r); text != want {
			t.Fatalf("Print: %q, want %q", text, want)
		}
		loose := strings.NewReplacer(" ", " \t ", "\n", " # x\n\n").Replace(text)
		wantParse(t, loose, r)
	}
}

func printed(r api.Recipe) string {
	var text string
	for _, s := range r.Steps {
		text += s.Name + " = " + s.Op
		for _, name := range s.In {
			text += " " + name
		}
		for _, i := range s.Ints {
			text += " " + strconv.FormatInt(int64(i), 10)
		}
		for _, v := range s.Reals {
			number, _ := field.Number(v)
			text += " " + number
		}
		text += "\n"
	}
	return text + "out " + r.Out + "\n"
}

// P142: Rename renames a step everywhere, and has its errors in their order.
func TestRename(t *testing.T) {
	r := read(t, "a = const 1/b = add a a/ab = blend a b a/c = slope ab/out b")
	for _, s := range []struct{ from, to, want string }{
		{"a", "z", "z = const 1/b = add z z/ab = blend z b z/c = slope ab/out b"},
		{"b", "z", "a = const 1/z = add a a/ab = blend a z a/c = slope ab/out z"},
		{"ab", "A", "a = const 1/b = add a a/A = blend a b a/c = slope A/out b"},
		{"c", "add", "a = const 1/b = add a a/ab = blend a b a/add = slope ab/out b"},
		{"a", "a", "a = const 1/b = add a a/ab = blend a b a/c = slope ab/out b"},
		{"b", "b", "a = const 1/b = add a a/ab = blend a b a/c = slope ab/out b"},
	} {
		q, e := recipe.Rename(r, s.from, s.to)
		if e != api.OK || !sameRecipe(q, read(t, s.want)) {
			t.Errorf("Rename of %s to %s: %v, error %d", s.from, s.to, q, e)
		}
	}
	for _, s := range []struct {
		from, to string
		want     api.Errno
	}{
		{"x", "z", api.ErrName}, {"", "z", api.ErrName}, {"out", "z", api.ErrName}, {"A", "z", api.ErrName}, {"x", "x", api.ErrName}, {"x", "a", api.ErrName}, {"const", "z", api.ErrName},
		{"a", "", api.ErrName}, {"a", "out", api.ErrName}, {"a", "1", api.ErrName}, {"a", "a b", api.ErrName}, {"a", "=", api.ErrName}, {"x", "", api.ErrName},
		{"a", "b", api.ErrTwice}, {"b", "a", api.ErrTwice}, {"c", "ab", api.ErrTwice}, {"a", "c", api.ErrTwice},
	} {
		q, e := recipe.Rename(r, s.from, s.to)
		wantNothing(t, "Rename of "+s.from+" to "+s.to, isRecipe(q), e, s.want)
	}
	wrong := copyOf(r)
	wrong.Steps[3].Ints = []int{1}
	q, e := recipe.Rename(wrong, "x", "")
	wantNothing(t, "Rename of a wrong recipe", isRecipe(q), e, api.ErrForm)
}

// P142: a recipe with another name is the same recipe; the graph knows no names.
func TestRenamedIsTheSame(t *testing.T) {
	n := &numbers{state: 3}
	for range 100 {
		r := recipeOf(n.graph(8))
		q, e := recipe.Rename(r, pickOf(n, r.Steps...).Name, "other")
		wantError(t, "Rename", e, api.OK)
		wantGraph(t, "Compile of what is renamed", compiled(t, q), api.OK, compiled(t, r))
		if slices.EqualFunc(q.Steps, r.Steps, sameStep) {
			t.Error("nothing is renamed")
		}
	}
}
