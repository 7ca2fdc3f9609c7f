package tile_test

import (
	"math"
	"slices"
	"testing"

	"tarnfell/api"
	"tarnfell/field"
	"tarnfell/shape"
	"tarnfell/tile"
)

// rightEdits are at the limits of what an edit may be.
func rightEdits() []api.Edit {
	var l []api.Edit
	for _, brush := range []int{api.BrushFlat, api.BrushCone, api.BrushBell} {
		for _, p := range []api.Point{{X: 0, Y: 0}, {X: far, Y: -far}, {X: -far, Y: far}, {X: -1, Y: 7}} {
			for _, radius := range []int{1, 2, 255, 256} {
				l = append(l, soften(brush, p.X, p.Y, radius))
				for _, v := range []float32{0, minusZero, 1, -1, tiny, -tiny, top, -top, 0.1} {
					l = append(l, raise(brush, p.X, p.Y, radius, v), level(brush, p.X, p.Y, radius, v), set(brush, p.X, p.Y, radius, v))
				}
			}
		}
	}
	return l
}

type badEdit struct {
	e    api.Edit
	want api.Errno
}

var badSingles = []struct {
	v    float32
	want api.Errno
}{{nan, api.ErrForm}, {inf, api.ErrForm}, {-inf, api.ErrForm}, {beyond, api.ErrRange}, {-beyond, api.ErrRange}, {math.MaxFloat32, api.ErrRange}}

// badBrushes have one thing wrong each, and others that come behind it.
func badBrushes() []badEdit {
	var l []badEdit
	add := func(want api.Errno, change func(e *api.Edit)) {
		for kind := api.EditRaise; kind <= api.EditSet; kind++ {
			for _, target := range []float32{0, 1, nan, beyond} {
				e := api.Edit{Kind: kind, Brush: api.Brush{Kind: api.BrushCone, X: 3, Y: -4, Radius: 5}, Target: target}
				change(&e)
				l = append(l, badEdit{e, want})
			}
		}
	}
	for _, kind := range []int{0, 4, -1, math.MaxInt, math.MinInt, 1 << 32} {
		add(api.ErrKind, func(e *api.Edit) { e.Brush.Kind = kind })
		add(api.ErrKind, func(e *api.Edit) { e.Brush = api.Brush{Kind: kind, X: far + 1, Height: nan} })
	}
	for _, n := range []int{far + 1, -far - 1, math.MaxInt, math.MinInt} {
		add(api.ErrPlace, func(e *api.Edit) { e.Brush.X = n })
		add(api.ErrPlace, func(e *api.Edit) { e.Brush.Y, e.Brush.Radius, e.Brush.Height = n, 0, nan })
	}
	for _, n := range []int{0, -1, 257, 1 << 32, math.MaxInt, math.MinInt} {
		add(api.ErrRange, func(e *api.Edit) { e.Brush.Radius, e.Brush.Height = n, nan })
	}
	for _, s := range badSingles {
		add(s.want, func(e *api.Edit) { e.Brush.Height = s.v })
	}
	return l
}

// badEdits have one thing wrong each, and others that come behind it.
func badEdits() []badEdit {
	l := badBrushes()
	for _, kind := range []int{0, 5, -1, math.MaxInt, math.MinInt, 1<<32 + 1} {
		l = append(l, badEdit{api.Edit{Kind: kind, Brush: api.Brush{Kind: api.BrushFlat, Radius: 1}}, api.ErrKind}, badEdit{api.Edit{Kind: kind, Target: nan}, api.ErrKind}, badEdit{api.Edit{Kind: kind, Brush: api.Brush{Kind: api.BrushFlat, X: far + 1}}, api.ErrKind})
	}
	for _, s := range badSingles {
		for kind := api.EditRaise; kind <= api.EditSet; kind++ {
			e := soften(api.BrushBell, 1, 2, 3)
			e.Kind, e.Target = kind, s.v
			l = append(l, badEdit{e, s.want})
			e.Brush.Height = 1
			l = append(l, badEdit{e, s.want})
		}
	}
	for _, v := range []float32{minusZero, 1, -1, tiny, top} {
		a, b, c, d := raise(api.BrushFlat, 1, 2, 3, 4), soften(api.BrushFlat, 1, 2, 3), level(api.BrushFlat, 1, 2, 3, 4), set(api.BrushFlat, 1, 2, 3, 4)
		a.Target, b.Target, c.Brush.Height, d.Brush.Height = v, v, v, v
		e := soften(api.BrushFlat, 1, 2, 3)
		e.Brush.Height = v
		l = append(l, badEdit{a, api.ErrForm}, badEdit{b, api.ErrForm}, badEdit{c, api.ErrForm}, badEdit{d, api.ErrForm}, badEdit{e, api.ErrForm})
	}
	return l
}

// P176: what an edit may be, and the errors, in their order.
func TestCheckEdit(t *testing.T) {
	for _, e := range rightEdits() {
		if bad := tile.CheckEdit(e); bad != api.OK {
			t.Errorf("CheckEdit of %v: error %d", e, bad)
		}
	}
	for _, s := range badEdits() {
		if bad := tile.CheckEdit(s.e); bad != s.want {
			t.Errorf("CheckEdit of %v: error %d, want %d", s.e, bad, s.want)
		}
	}
}

// P176: the box of an edit is that of its brush.
func TestBox(t *testing.T) {
	for _, e := range rightEdits() {
		want, _ := shape.Box(e.Brush)
		if r, bad := tile.Box(e); r != want || bad != api.OK {
			t.Errorf("Box of %v: %v, error %d; want %v", e, r, bad, want)
		}
	}
	if r, _ := tile.Box(soften(api.BrushBell, -far, far, 3)); r != region(-far-2, far-2, 5, 5) {
		t.Error("Box beyond all places", r)
	}
	for _, s := range badEdits() {
		r, bad := tile.Box(s.e)
		wantNothing(t, "Box", r != api.Region{}, bad, s.want)
	}
}

// P176: each kind of edit, by hand. Cells without a weight keep their bits.
func TestKinds(t *testing.T) {
	f := of(-1, 4, 3, 3, minusZero, 8, 1, 2, 16, 4, 0, 32, minusZero)
	for _, s := range []struct {
		e    api.Edit
		want []float32
	}{
		{raise(api.BrushFlat, 0, 5, 1, 2), []float32{minusZero, 8, 1, 2, 18, 4, 0, 32, minusZero}},
		{raise(api.BrushFlat, 0, 5, 2, -3), []float32{-3, 5, -2, -1, 13, 1, -3, 29, -3}},
		{raise(api.BrushFlat, 0, 5, 2, 0), []float32{0, 8, 1, 2, 16, 4, 0, 32, 0}},
		{raise(api.BrushFlat, 0, 5, 2, minusZero), []float32{minusZero, 8, 1, 2, 16, 4, 0, 32, minusZero}},
		{raise(api.BrushCone, 0, 5, 2, 8), []float32{8 * (1 - float32(math.Sqrt2)/2), 12, 1 + 8*(1-float32(math.Sqrt2)/2), 6, 24, 8, 8 * (1 - float32(math.Sqrt2)/2), 36, 8 * (1 - float32(math.Sqrt2)/2)}},
		{raise(api.BrushBell, 0, 5, 2, 16), []float32{4, 17, 5, 11, 32, 13, 4, 41, 4}},
		{raise(api.BrushCone, 1, 4, 1, 1), []float32{minusZero, 8, 2, 2, 16, 4, 0, 32, minusZero}},
		{level(api.BrushCone, 0, 5, 1, 3), []float32{minusZero, 8, 1, 2, 3, 4, 0, 32, minusZero}},
		{level(api.BrushBell, 0, 5, 2, 0), []float32{0, 3.5, 0.75, 0.875, 0, 1.75, 0, 14, 0}},
		{set(api.BrushBell, 0, 5, 2, minusZero), slices.Repeat([]float32{minusZero}, 9)},
		{set(api.BrushCone, 1, 6, 2, 7), []float32{minusZero, 8, 1, 2, 7, 7, 0, 7, 7}},
		{set(api.BrushFlat, 1, 6, 2, 7), []float32{minusZero, 8, 1, 2, 7, 7, 0, 7, 7}},
		{set(api.BrushFlat, 9, 9, 2, 7), f.V},
	} {
		g, e := tile.Apply(f, []api.Edit{s.e})
		wantField(t, "Apply", g, e, of(-1, 4, 3, 3, s.want...))
	}
	for _, s := range []struct {
		e    api.Edit
		want float32
	}{
		{soften(api.BrushFlat, 0, 5, 1), 11.5}, {soften(api.BrushFlat, -1, 4, 1), 16}, {soften(api.BrushBell, 0, 6, 2), 16 + (11.5-16)*0.5625}, {soften(api.BrushCone, 1, 5, 2), 16 + (11.5-16)*0.5},
	} {
		g, e := tile.Apply(f, []api.Edit{s.e})
		wantField(t, "EditSoften", g, e, of(0, 5, 1, 1, s.want))
	}
	g, e := tile.Apply(of(0, 0, 3, 3, 0, 0, 0, 0, minusZero, 0, 0, 0, 0), []api.Edit{soften(api.BrushFlat, 5, 5, 4)})
	wantField(t, "EditSoften beside its brush", g, e, of(1, 1, 1, 1, minusZero))
}

// P176: north and west, east and south are added first; each operation is rounded at once.
func TestRounding(t *testing.T) {
	const a = 1 << 19
	for _, s := range []struct{ n, w, e, s, v, want float32 }{
		{a, -a, 0.01, 0.02, 0, times(plus(0.01, 0.02), 0.25)},
		{a, 0.01, -a, 0.02, 0, times(plus(plus(a, 0.01), plus(-a, 0.02)), 0.25)},
		{a, 0.01, 0.02, -a, 0, times(plus(plus(a, 0.01), plus(0.02, -a)), 0.25)},
		{0.1, 0.2, 0.3, 0.4, a + 0.3125, plus(a+0.3125, minus(times(plus(plus(0.1, 0.2), plus(0.3, 0.4)), 0.25), a+0.3125))},
	} {
		f := of(0, 0, 3, 3, 0, s.n, 0, s.w, s.v, s.e, 0, s.s, 0)
		g, e := tile.Apply(f, []api.Edit{soften(api.BrushFlat, 1, 1, 1)})
		wantField(t, "EditSoften", g, e, of(1, 1, 1, 1, s.want))
	}
	// The target is not met where the difference is rounded.
	g, e := tile.Apply(of(0, 0, 1, 1, a), []api.Edit{level(api.BrushFlat, 0, 0, 1, 0.01)})
	if e != api.OK || sameBits(g.V[0], 0.01) || !sameBits(g.V[0], plus(a, minus(0.01, a))) {
		t.Error("EditLevel", g, e)
	}
}

// P176, P177: Apply is the rules, cell by cell, for edits of all kinds in any order.
func TestApply(t *testing.T) {
	n := &numbers{state: 2}
	right, softened := 0, 0
	for range 3000 {
		l := n.edits(region(-5, 2, 9, 9), n.between(0, 12), 7)
		f := n.field(grown(region(-5+n.between(-2, 2), 2, n.between(1, 9), n.between(1, 9)), softens(l)))
		want, wantE := applied(f, l)
		g, e := tile.Apply(f, l)
		wantResult(t, "Apply", g, e, want, wantE)
		if e == api.OK {
			right++
			softened += softens(l)
		}
	}
	if right < 1000 || softened < 1000 {
		t.Error("too few are right:", right, softened)
	}
}

// P176: the greatest brushes, at the ends of all places, too.
func TestGreatBrushes(t *testing.T) {
	n := &numbers{state: 3}
	for _, r := range []api.Region{region(-far, -far, 40, 30), region(far-40, far-30, 40, 30), region(-far, far-30, 40, 30)} {
		for range 30 {
			l := n.edits(r, 3, 256)
			for i := range l {
				b := &l[i].Brush
				b.X, b.Y = min(max(b.X, -far), far), min(max(b.Y, -far), far)
			}
			f := n.field(r)
			want, wantE := applied(f, l)
			g, e := tile.Apply(f, l)
			wantResult(t, "Apply", g, e, want, wantE)
		}
	}
}

// P177: an edit sees what the edits before it left.
func TestOrderOfEdits(t *testing.T) {
	f := of(0, 0, 1, 1, 5)
	a, b, c := raise(api.BrushFlat, 0, 0, 1, 2), set(api.BrushFlat, 0, 0, 1, 30), level(api.BrushCone, 1, 0, 2, 10)
	for _, s := range []struct {
		l    []api.Edit
		want float32
	}{{nil, 5}, {[]api.Edit{a, b}, 30}, {[]api.Edit{b, a}, 32}, {[]api.Edit{b, c, a}, 22}, {[]api.Edit{c, a, a}, 11.5}, {[]api.Edit{a, c, b, b}, 30}} {
		g, e := tile.Apply(f, s.l)
		wantField(t, "Apply", g, e, of(0, 0, 1, 1, s.want))
	}
}

// P177, G7: values on the way, and on the edges that are left out, need not be heights.
func TestOnTheWay(t *testing.T) {
	up, down := raise(api.BrushFlat, 1, 1, 1, top), raise(api.BrushFlat, 1, 1, 1, -top)
	f := of(0, 0, 3, 3, 0, 0, 0, 0, top, 0, 0, 0, 0)
	for _, l := range [][]api.Edit{{up, down}, {up, up, up, down, down, down}, {down, down, down, up, up, up}, {up, set(api.BrushFlat, 1, 1, 1, top)}, {up, level(api.BrushFlat, 1, 1, 1, top)}} {
		g, e := tile.Apply(f, l)
		wantField(t, "Apply", g, e, f)
	}
	for _, l := range [][]api.Edit{{up}, {raise(api.BrushFlat, 1, 1, 1, 0.125)}, {down, down, raise(api.BrushFlat, 1, 1, 1, -0.125)}, {up, up, down}} {
		g, e := tile.Apply(f, l)
		wantNothing(t, "Apply", isSome(g), e, api.ErrRange)
	}
	g, e := tile.Apply(of(0, 0, 3, 3, 0, top, 0, 0, 2, 0, 0, 0, 0), []api.Edit{raise(api.BrushFlat, 1, 0, 1, top), soften(api.BrushFlat, 1, 1, 1)})
	wantField(t, "Apply", g, e, of(1, 1, 1, 1, top/2))
	// As many as there may be of the greatest.
	l := slices.Concat(slices.Repeat([]api.Edit{up}, 250), slices.Repeat([]api.Edit{down}, 250))
	g, e = tile.Apply(f, l)
	wantField(t, "Apply of 500", g, e, f)
}

// badFields have one thing wrong each.
var badFields = []struct {
	f    api.Field
	want api.Errno
}{
	{api.Field{}, api.ErrRange}, {of(0, 0, 513, 1), api.ErrRange}, {of(0, 0, 512, 512), api.ErrLarge}, {of(far, 0, 1, 1, 0), api.ErrPlace}, {of(0, 0, 2, 1, 0), api.ErrForm}, {of(0, 0, 1, 1, 0, 0), api.ErrForm},
	{of(0, 0, 2, 1, beyond, nan), api.ErrForm}, {of(0, 0, 1, 1, inf), api.ErrForm}, {of(0, 0, 1, 1, -beyond), api.ErrRange},
}

// P177: the errors of Apply, in their order.
func TestApplyErrors(t *testing.T) {
	many := slices.Repeat([]api.Edit{raise(api.BrushFlat, 0, 0, 1, 1)}, 501)
	wrong := api.Edit{Kind: 9}
	for _, s := range badFields {
		for _, l := range [][]api.Edit{nil, {wrong}, many, {soften(1, 0, 0, 1)}} {
			g, e := tile.Apply(s.f, l)
			wantNothing(t, "Apply", isSome(g), e, s.want)
		}
	}
	f := of(0, 0, 1, 1, 0)
	g, e := tile.Apply(f, many)
	wantNothing(t, "Apply of too many", isSome(g), e, api.ErrLarge)
	many[0] = wrong
	g, e = tile.Apply(f, many)
	wantNothing(t, "Apply of too many", isSome(g), e, api.ErrLarge)
	g, e = tile.Apply(f, many[1:])
	wantField(t, "Apply of 500", g, e, of(0, 0, 1, 1, 500))
	for _, s := range badEdits() {
		for _, l := range [][]api.Edit{{s.e}, {soften(1, 0, 0, 1), raise(1, 0, 0, 1, top), raise(1, 0, 0, 1, top), s.e, wrong}, {s.e, soften(1, 0, 0, 1)}} {
			g, e := tile.Apply(f, l)
			wantNothing(t, "Apply", isSome(g), e, s.want)
		}
	}
	// Nothing is left, however high the values are.
	over := []api.Edit{raise(1, 0, 0, 9, top), raise(1, 0, 0, 9, top), soften(1, 0, 0, 1), soften(1, 0, 0, 1)}
	for _, s := range []struct {
		w, h int
		want api.Errno
	}{{1, 1, api.ErrEmpty}, {4, 4, api.ErrEmpty}, {4, 9, api.ErrEmpty}, {9, 4, api.ErrEmpty}, {9, 1, api.ErrEmpty}, {5, 5, api.ErrRange}, {512, 5, api.ErrRange}} {
		g, e := tile.Apply(flatField(region(0, 0, s.w, s.h), 1), over)
		wantNothing(t, "Apply", isSome(g), e, s.want)
	}
	g, e = tile.Apply(flatField(region(0, 0, 9, 9), 1), slices.Repeat([]api.Edit{soften(1, 0, 0, 1)}, 500))
	wantNothing(t, "Apply of 500 EditSoften", isSome(g), e, api.ErrEmpty)
}

// P177: Margin counts EditSoften, and Reach those behind an edit, whatever else is wrong with them.
func TestMarginAndReach(t *testing.T) {
	a, b := set(api.BrushBell, 10, -20, 4, 7), soften(api.BrushCone, -3, 5, 1)
	l := []api.Edit{a, b, a, b, b, a}
	for k, want := range []api.Region{region(4, -26, 13, 13), region(-5, 3, 5, 5), region(5, -25, 11, 11), region(-4, 4, 3, 3), region(-3, 5, 1, 1), region(7, -23, 7, 7)} {
		if r, e := tile.Reach(l, k); r != want || e != api.OK {
			t.Errorf("Reach of %d: %v, error %d; want %v", k, r, e, want)
		}
	}
	for _, s := range []struct {
		l    []api.Edit
		want int
	}{{nil, 0}, {[]api.Edit{}, 0}, {l, 3}, {l[:1], 0}, {l[3:5], 2}, {slices.Repeat(l, 300), 900}, {[]api.Edit{{}, {Kind: 3}, {Kind: 9}, {Kind: 3, Target: nan}}, 2}} {
		if m, e := tile.Margin(s.l); m != s.want || e != api.OK {
			t.Errorf("Margin: %d, error %d; want %d", m, e, s.want)
		}
	}
	// It can lie beyond all places.
	if r, e := tile.Reach([]api.Edit{raise(1, far, -far, 256, 1), b, b}, 0); r != region(far-257, -far-257, 515, 515) || e != api.OK {
		t.Error("Reach beyond all places", r, e)
	}
	// Neither the edit nor those behind it need be right.
	wrong := api.Edit{Kind: 9, Brush: api.Brush{Kind: 7, X: 5, Y: 6, Radius: 2, Height: nan}, Target: inf}
	if r, e := tile.Reach([]api.Edit{wrong, {Kind: 3, Target: nan}, wrong}, 0); r != region(3, 4, 5, 5) || e != api.OK {
		t.Error("Reach of a wrong edit", r, e)
	}
	if r, e := tile.Reach(slices.Repeat([]api.Edit{b}, 600), 0); r != grown(region(-3, 5, 1, 1), 599) || e != api.OK {
		t.Error("Reach in a long list", r, e)
	}
	for _, k := range []int{-1, 6, 7, math.MaxInt, math.MinInt} {
		r, e := tile.Reach(l, k)
		wantNothing(t, "Reach", r != api.Region{}, e, api.ErrNone)
	}
	r, e := tile.Reach(nil, 0)
	wantNothing(t, "Reach", r != api.Region{}, e, api.ErrNone)
}

// P177: outside of its reach an edit changes nothing, and inside it can change each cell.
func TestReachIsRight(t *testing.T) {
	n := &numbers{state: 4}
	for range 1500 {
		l := n.edits(region(0, 0, 9, 9), n.between(1, 8), 5)
		k := n.between(0, len(l)-1)
		f := n.field(grown(region(-4, -4, 18, 18), softens(l)))
		a, e := tile.Apply(f, l)
		if e != api.OK {
			continue
		}
		// In its place an edit that is no other but far away.
		other := slices.Clone(l)
		other[k] = l[k]
		other[k].Brush.X = 1000
		b, e := tile.Apply(f, other)
		if e != api.OK {
			continue
		}
		r, _ := tile.Reach(l, k)
		for i, v := range a.V {
			if x, y := a.X+i%a.W, a.Y+i/a.W; !sameBits(v, b.V[i]) && !covers(r, x, y) {
				t.Fatalf("the edit %d of %v changes (%d, %d), outside of %v", k, l, x, y, r)
			}
		}
	}
	// The corners of the box of a flat brush with the radius 1, and its way through three flat EditSoften: a diamond up to the reach.
	l := []api.Edit{raise(api.BrushFlat, 0, 0, 1, 64), soften(api.BrushFlat, 0, 0, 9), soften(api.BrushFlat, 0, 0, 9), soften(api.BrushFlat, 0, 0, 9)}
	f, e := tile.Apply(flatField(region(-10, -10, 21, 21), 0), l)
	wantError(t, "Apply", e, api.OK)
	changed := region(0, 0, 1, 1)
	for i, v := range f.V {
		if x, y := f.X+i%f.W, f.Y+i/f.W; v != 0 && !covers(changed, x, y) {
			left, high := min(changed.X, x), min(changed.Y, y)
			changed = region(left, high, max(changed.X+changed.W, x+1)-left, max(changed.Y+changed.H, y+1)-high)
		}
	}
	if r, _ := tile.Reach(l, 0); changed != r || changed != region(-3, -3, 7, 7) {
		t.Errorf("what is changed is %v, Reach %v", changed, r)
	}
}

// P177: Whole is Apply of Eval of the region, grown.
func TestWhole(t *testing.T) {
	n := &numbers{state: 5}
	for _, g := range []api.Graph{hills(t), flatGraph(minusZero), smoothGraph(3, 5), graphOf(t, "a = speckle 3 0.5/b = scale a 5 1/out b")} {
		for range 150 {
			r := n.region(9)
			l := n.edits(r, n.between(0, 9), 9)
			want, wantE := wholeOf(g, l, r)
			f, e := tile.Whole(g, l, r)
			wantResult(t, "Whole", f, e, want, wantE)
		}
	}
	f, e := tile.Whole(flatGraph(2), nil, region(far-5, -far, 5, 9))
	wantField(t, "Whole without a margin", f, e, flatField(region(far-5, -far, 5, 9), 2))
}

// P177: both margins together may be MaxMargin, and the region grown by both must be one.
func TestWholeErrors(t *testing.T) {
	at := region(0, 0, 2, 2)
	soft := func(many int) []api.Edit { return slices.Repeat([]api.Edit{soften(api.BrushFlat, 0, 0, 1)}, many) }
	many := slices.Repeat([]api.Edit{raise(1, 0, 0, 1, 1)}, 501)
	wrong := []api.Edit{{Kind: 9}}
	raised := []api.Edit{raise(1, 0, 0, 1, top), raise(1, 0, 0, 1, top)}
	for _, s := range []struct {
		what string
		g    api.Graph
		l    []api.Edit
		r    api.Region
		want api.Errno
	}{
		{"no graph", api.Graph{}, many, region(0, 0, 0, 0), api.ErrEmpty},
		{"a wrong graph", api.Graph{Nodes: []api.Node{{Op: "x"}}}, wrong, at, api.ErrKind},
		{"a wrong Out", api.Graph{Nodes: flatGraph(1).Nodes, Out: 1}, wrong, at, api.ErrName},
		{"too many edits", smoothGraph(1, 201), append(wrong, many...), at, api.ErrLarge},
		{"a wrong edit", smoothGraph(1, 201), wrong, region(0, 0, 0, 0), api.ErrKind},
		{"margins of 201", smoothGraph(1, 150), soft(51), region(0, 0, 0, 0), api.ErrRange},
		{"margins of 201 of the graph", smoothGraph(1, 201), nil, at, api.ErrRange},
		{"margins of 201 of edits", flatGraph(1), soft(201), at, api.ErrRange},
		{"margins of 500", flatGraph(1), soft(500), region(far, 0, 1, 1), api.ErrRange},
		{"margins of 200", smoothGraph(1, 150), soft(50), at, api.ErrLarge},
		{"margins of 200 of the graph", smoothGraph(1, 200), nil, at, api.ErrLarge},
		{"margins of 200 of edits", flatGraph(1), soft(200), at, api.ErrLarge},
		{"no region", flatGraph(1), nil, region(0, 0, 0, 1), api.ErrRange},
		{"no region", smoothGraph(1, 1), soft(1), region(0, 0, 257, 256), api.ErrLarge},
		{"no region", flatGraph(1), soft(1), region(far-1, 0, 2, 2), api.ErrPlace},
		{"a region that would be too wide", smoothGraph(1, 2), soft(3), region(0, 0, 503, 9), api.ErrRange},
		{"a region that would be too large", smoothGraph(1, 2), soft(3), region(0, 0, 247, 247), api.ErrLarge},
		{"a region that would end too far", smoothGraph(1, 2), soft(3), region(far-6, 0, 2, 2), api.ErrPlace},
		{"a region that would begin too far", smoothGraph(1, 2), soft(3), region(0, -far+4, 2, 2), api.ErrPlace},
		{"an error of a node", island(0, 0, 4), raised, region(0, 0, 5, 1), api.ErrRange},
		{"an error of values", flatGraph(1), raised, at, api.ErrRange},
	} {
		f, e := tile.Whole(s.g, s.l, s.r)
		wantNothing(t, s.what, isSome(f), e, s.want)
	}
	for _, s := range []struct {
		g api.Graph
		l []api.Edit
		r api.Region
	}{
		{smoothGraph(1, 77), soft(50), at}, {smoothGraph(1, 127), nil, at}, {flatGraph(1), soft(127), at}, {smoothGraph(1, 2), soft(3), region(0, 0, 502, 9)}, {smoothGraph(1, 2), soft(3), region(0, 0, 246, 246)},
		{smoothGraph(1, 2), soft(3), region(far-7, 0, 2, 2)}, {smoothGraph(1, 2), soft(3), region(0, -far+5, 2, 2)}, {flatGraph(1), raised[:1], region(5, 5, 2, 2)},
	} {
		f, e := tile.Whole(s.g, s.l, s.r)
		wantField(t, "Whole", f, e, flatField(s.r, 1))
	}
	for _, s := range badEdits() {
		f, e := tile.Whole(smoothGraph(1, 201), []api.Edit{soften(1, 0, 0, 1), s.e}, region(0, 0, 0, 0))
		wantNothing(t, "Whole", isSome(f), e, s.want)
	}
	for _, s := range badRegions {
		f, e := tile.Whole(flatGraph(1), nil, s.r)
		wantNothing(t, "Whole", isSome(f), e, s.want)
	}
}

// P264, P177: Whole of two regions, with all edits, is the same where they overlap.
func TestWholeOfParts(t *testing.T) {
	n := &numbers{state: 6}
	g := hills(t)
	for range 100 {
		a, b := n.region(20), n.region(20)
		both, some := field.Common(a, b)
		l := n.edits(a, 6, 9)
		f, e := tile.Whole(g, l, a)
		h, e2 := tile.Whole(g, l, b)
		if some && e == api.OK && e2 == api.OK {
			wantField(t, "Whole", partOf(f, both), api.OK, partOf(h, both))
		}
	}
}

// G1: the greatest lists of the greatest brushes end soon.
func TestLargestEdits(t *testing.T) {
	n := &numbers{state: 7}
	l := n.edits(region(0, 0, 256, 256), 500, 1)
	for i := range l {
		l[i].Brush.Radius = 256
		if i < 400 && l[i].Kind == api.EditSoften {
			l[i].Kind = api.EditSet
		}
	}
	r := grown(region(0, 0, 256, 256), -softens(l))
	f, e := tile.Whole(flatGraph(1), l, r)
	if e == api.OK && f.Region != r || e != api.OK && e != api.ErrRange {
		t.Error("Whole", f.Region, e)
	}
}
