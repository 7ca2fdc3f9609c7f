package tile_test

import (
	"math"
	"slices"
	"strings"
	"testing"

	"tarnfell/api"
	"tarnfell/recipe"
	"tarnfell/tile"
)

var (
	nan       = float32(math.NaN())
	inf       = float32(math.Inf(1))
	minusZero = float32(math.Copysign(0, -1))
)

const (
	top    = float32(api.MaxHeight)
	beyond = top + 0.125 // the least single above all heights
	tiny   = float32(math.SmallestNonzeroFloat32)
	far    = api.MaxPlace
)

func region(x, y, w, h int) api.Region { return api.Region{X: x, Y: y, W: w, H: h} }

func of(x, y, w, h int, v ...float32) api.Field {
	return api.Field{Region: region(x, y, w, h), V: v}
}

func grown(r api.Region, n int) api.Region { return region(r.X-n, r.Y-n, r.W+2*n, r.H+2*n) }

func covers(r api.Region, x, y int) bool {
	return x >= r.X && x < r.X+r.W && y >= r.Y && y < r.Y+r.H
}

func touches(a, b api.Region) bool {
	return a.X < b.X+b.W && b.X < a.X+a.W && a.Y < b.Y+b.H && b.Y < a.Y+a.H
}

func flatField(r api.Region, v float32) api.Field {
	return api.Field{Region: r, V: slices.Repeat([]float32{v}, r.W*r.H)}
}

func copyOf(f api.Field) api.Field { return api.Field{Region: f.Region, V: slices.Clone(f.V)} }

func valueAt(f api.Field, x, y int) float32 { return f.V[(y-f.Y)*f.W+x-f.X] }

// partOf is the part of a field in a region.
func partOf(f api.Field, r api.Region) api.Field {
	g := api.Field{Region: r}
	for i := range r.W * r.H {
		g.V = append(g.V, valueAt(f, r.X+i%r.W, r.Y+i/r.W))
	}
	return g
}

func sameBits(a, b float32) bool { return math.Float32bits(a) == math.Float32bits(b) }

func sameSingles(a, b []float32) bool { return slices.EqualFunc(a, b, sameBits) }

func sameField(a, b api.Field) bool { return a.Region == b.Region && sameSingles(a.V, b.V) }

func isSome(f api.Field) bool { return f.Region != api.Region{} || len(f.V) > 0 }

func isHeight(v float32) bool { return v >= -top && v <= top }

func wantError(t *testing.T, what string, e, want api.Errno) {
	t.Helper()
	if e != want {
		t.Errorf("%s: error %d, want %d", what, e, want)
	}
}

// wantNothing wants an error, and no result with it.
func wantNothing(t *testing.T, what string, some bool, e, want api.Errno) {
	t.Helper()
	wantError(t, what, e, want)
	if some {
		t.Errorf("%s: a result with the error %d", what, e)
	}
}

func wantField(t *testing.T, what string, f api.Field, e api.Errno, want api.Field) {
	t.Helper()
	if e != api.OK || f.Region != want.Region || len(f.V) != len(want.V) {
		t.Errorf("%s: got %d values of %v, error %d; want %d of %v", what, len(f.V), f.Region, e, len(want.V), want.Region)
		return
	}
	for i, v := range f.V {
		if !sameBits(v, want.V[i]) {
			t.Errorf("%s: got %v at (%d, %d), want %v", what, v, f.X+i%f.W, f.Y+i/f.W, want.V[i])
			return
		}
	}
}

// wantResult wants a field, or no field together with an error.
func wantResult(t *testing.T, what string, f api.Field, e api.Errno, want api.Field, wantE api.Errno) {
	t.Helper()
	if wantE == api.OK {
		wantField(t, what, f, e, want)
		return
	}
	wantNothing(t, what, isSome(f), e, wantE)
}

func sameEdit(a, b api.Edit) bool {
	return a.Kind == b.Kind && a.Brush.Kind == b.Brush.Kind && a.Brush.X == b.Brush.X && a.Brush.Y == b.Brush.Y && a.Brush.Radius == b.Brush.Radius && sameBits(a.Brush.Height, b.Brush.Height) && sameBits(a.Target, b.Target)
}

func wantEdits(t *testing.T, what string, l, want []api.Edit) {
	t.Helper()
	if !slices.EqualFunc(l, want, sameEdit) {
		t.Errorf("%s: got the edits %v, want %v", what, l, want)
	}
}

func raise(brush, x, y, radius int, height float32) api.Edit {
	return api.Edit{Kind: api.EditRaise, Brush: api.Brush{Kind: brush, X: x, Y: y, Radius: radius, Height: height}}
}

func level(brush, x, y, radius int, target float32) api.Edit {
	return api.Edit{Kind: api.EditLevel, Brush: api.Brush{Kind: brush, X: x, Y: y, Radius: radius}, Target: target}
}

func soften(brush, x, y, radius int) api.Edit {
	return api.Edit{Kind: api.EditSoften, Brush: api.Brush{Kind: brush, X: x, Y: y, Radius: radius}}
}

func set(brush, x, y, radius int, target float32) api.Edit {
	return api.Edit{Kind: api.EditSet, Brush: api.Brush{Kind: brush, X: x, Y: y, Radius: radius}, Target: target}
}

// read makes a recipe of its text. A slash stands for a line feed, so that a recipe has one line here.
func read(t *testing.T, text string) api.Recipe {
	t.Helper()
	r, n, e := recipe.Parse(strings.ReplaceAll(text, "/", "\n"))
	if e != api.OK {
		t.Fatalf("Parse of %q: line %d, error %d", text, n, e)
	}
	return r
}

func graphOf(t *testing.T, text string) api.Graph {
	t.Helper()
	g, e := recipe.Compile(read(t, text))
	if e != api.OK {
		t.Fatalf("Compile of %q: error %d", text, e)
	}
	return g
}

// hills have a margin of 3.
func hills(t *testing.T) api.Graph {
	t.Helper()
	return graphOf(t, "a = noise 2 7 16 3 0.5/b = scale a 40 -0/c = smooth b 2/d = fault c 2 -3 5 4 6/e = curve d/f = scale e 3 1/out f")
}

func flatGraph(h float32) api.Graph {
	return api.Graph{Nodes: []api.Node{{Op: "const", Reals: []float32{h}}}}
}

// smoothGraph has the margin that is given.
func smoothGraph(h float32, margin int) api.Graph {
	g := flatGraph(h)
	for margin > 0 {
		steps := min(margin, 64)
		g.Nodes = append(g.Nodes, api.Node{Op: "smooth", In: []int{len(g.Nodes) - 1}, Ints: []int{steps}})
		margin -= steps
	}
	g.Out = len(g.Nodes) - 1
	return g
}

// island is a graph with values only where a stamp stands; elsewhere it has ErrRange.
func island(x, y, radius int) api.Graph {
	return api.Graph{Nodes: []api.Node{
		{Op: "const", Reals: []float32{0}},
		{Op: "stamp", In: []int{0}, Ints: []int{api.BrushFlat, x, y, radius}, Reals: []float32{4}},
		{Op: "div", In: []int{1, 1}},
	}, Out: 2}
}

func newWorld(t *testing.T, g api.Graph, r api.Region, side int) *tile.World {
	t.Helper()
	w, e := tile.New(g, r, side)
	if e != api.OK || w == nil {
		t.Fatalf("New for %v, side %d: error %d", r, side, e)
	}
	return w
}

func edit(t *testing.T, w *tile.World, l ...api.Edit) {
	t.Helper()
	for _, e := range l {
		wantError(t, "Edit", w.Edit(e), api.OK)
	}
}

func build(t *testing.T, w *tile.World, workers, want int) {
	t.Helper()
	if n, e := w.Build(workers); n != want || e != api.OK {
		t.Errorf("Build: made %d, error %d; want %d", n, e, want)
	}
}

func wantStale(t *testing.T, what string, w *tile.World, want ...int) {
	t.Helper()
	if l := w.Stale(); !slices.Equal(l, want) {
		t.Errorf("%s: stale are %v, want %v", what, l, want)
	}
}

func wantCounts(t *testing.T, what string, w *tile.World, made, kept int) {
	t.Helper()
	if w.Made() != made || w.Kept() != kept {
		t.Errorf("%s: made %d, kept %d; want %d, %d", what, w.Made(), w.Kept(), made, kept)
	}
}

func keysOf(t *testing.T, w *tile.World) []string {
	t.Helper()
	var l []string
	for k := 0; ; k++ {
		key, e := w.Key(k)
		if e != api.OK {
			wantNothing(t, "Key", key != "", e, api.ErrNone)
			return l
		}
		l = append(l, key)
	}
}

// numbers is a sequence that is the same in every run.
type numbers struct{ state uint64 }

func (n *numbers) next() uint32 {
	n.state = n.state*6364136223846793005 + 1442695040888963407
	return uint32(n.state >> 32)
}

func (n *numbers) between(least, most int) int { return least + int(n.next())%(most-least+1) }

// single is from -1 to 1.
func (n *numbers) single() float32 { return float32(int32(n.next())) / (1 << 31) }

// height has any sign, and any magnitude.
func (n *numbers) height() float32 {
	for {
		if v := math.Float32frombits(n.next()); isHeight(v) {
			return v
		}
	}
}

func (n *numbers) region(most int) api.Region {
	return region(n.between(-30, 30), n.between(-30, 30), n.between(1, most), n.between(1, most))
}

func pickOf[T any](n *numbers, l ...T) T { return l[n.between(0, len(l)-1)] }

// value is one of those that much hangs on, or any.
func (n *numbers) value() float32 {
	switch n.between(0, 3) {
	case 0:
		return pickOf(n, 0, minusZero, 1, -1, 0.5, -3, tiny, -tiny)
	case 1:
		return n.height()
	}
	return n.single() * 20
}

// field has values that are small enough for a few edits.
func (n *numbers) field(r api.Region) api.Field {
	f := api.Field{Region: r}
	for range r.W * r.H {
		f.V = append(f.V, pickOf(n, n.single()*20, n.single()*20, 0, minusZero, tiny, n.height()/4))
	}
	return f
}

// edit is a right one whose middle is in or near a region.
func (n *numbers) edit(r api.Region, radius int) api.Edit {
	e := api.Edit{Kind: n.between(1, 4)}
	e.Brush = api.Brush{Kind: n.between(1, 3), X: r.X + n.between(-3, r.W+2), Y: r.Y + n.between(-3, r.H+2), Radius: n.between(1, radius)}
	switch e.Kind {
	case api.EditRaise:
		e.Brush.Height = n.value()
	case api.EditLevel, api.EditSet:
		e.Target = n.value()
	}
	return e
}

func (n *numbers) edits(r api.Region, many, radius int) []api.Edit {
	var l []api.Edit
	for range many {
		l = append(l, n.edit(r, radius))
	}
	return l
}
