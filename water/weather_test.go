package water_test

import (
	"math"
	"testing"

	"tarnfell/api"
	"tarnfell/water"
)

// P83, G6: how wet the ground is, with each operation rounded.
func TestWet(t *testing.T) {
	n := &numbers{state: 26}
	for range 10 {
		for _, f := range n.fields(top) {
			for _, most := range []int{0, 5, 1 << 24, 1 << 40} {
				amounts := n.list(len(f.V), func() int { return n.between(0, most) })
				want := api.Field{Region: f.Region}
				for i, amount := range amounts {
					_, drop := dropAt(f, i)
					want.V = append(want.V, over(root(float32(amount)), plus(1, drop)))
				}
				g, e := water.Wet(f, amounts)
				wantField(t, "Wet", g, e, want)
			}
		}
	}
	g, e := water.Wet(row(3, 0, 0, 4), []int{16, 0, 9, 1 << 40})
	wantField(t, "Wet", g, e, row(1, 0, 3, top/5))
	g, e = water.Wet(row(7), []int{1 << 40})
	wantField(t, "Wet", g, e, row(top))
	g, e = water.Wet(bowl(0, 8), []int{0, 0, 0, 0, 81, 0, 0, 0, 0})
	wantField(t, "Wet", g, e, bowl(0, 1))
	g, e = water.Wet(of(0, 0, 2, 2, 1, 9, 9, 0), []int{4, 1, 1, 1})
	wantField(t, "Wet", g, e, of(0, 0, 2, 2, over(2, plus(1, over(1, root2))), 0.1, 0.1, 1))
}

// P83: the errors, in their order.
func TestWetErrors(t *testing.T) {
	for _, amounts := range [][]int{nil, {1}, {1, 2, 3}, {-1}} {
		g, e := water.Wet(row(1, 2), amounts)
		wantNoField(t, "Wet", g, e, api.ErrForm)
		for _, b := range badFields() {
			g, e = water.Wet(b.f, amounts)
			wantNoField(t, "Wet", g, e, b.want)
		}
	}
	for _, n := range outside(0, 1<<40) {
		for _, amounts := range [][]int{{n, 1}, {1, n}} {
			g, e := water.Wet(row(1, 2), amounts)
			wantNoField(t, "Wet", g, e, api.ErrRange)
		}
	}
}

// badSnow is a snow with what CheckSnow says of it.
type badSnow struct {
	s    api.Snow
	want api.Errno
}

func badSnows() []badSnow {
	var l []badSnow
	for _, s := range badSingles(-top, top) {
		l = append(l, badSnow{api.Snow{Line: s.v}, s.want}, badSnow{api.Snow{Line: s.v, Rate: -1}, s.want})
	}
	for _, s := range badSingles(0, top) {
		l = append(l, badSnow{api.Snow{Rate: s.v}, s.want}, badSnow{api.Snow{Most: s.v}, s.want}, badSnow{api.Snow{Hold: s.v}, s.want})
	}
	return append(l,
		badSnow{api.Snow{Rate: -tiny}, api.ErrRange}, badSnow{api.Snow{Most: -tiny}, api.ErrRange}, badSnow{api.Snow{Hold: -tiny}, api.ErrRange},
		badSnow{api.Snow{Line: beyond, Rate: nan}, api.ErrForm}, badSnow{api.Snow{Rate: -1, Most: nan}, api.ErrForm}, badSnow{api.Snow{Most: -beyond, Hold: inf}, api.ErrForm}, badSnow{api.Snow{Line: beyond, Rate: beyond, Most: beyond, Hold: nan}, api.ErrForm},
	)
}

// P84: the edges of all ranges, and the errors, in their order.
func TestCheckSnow(t *testing.T) {
	for _, s := range []api.Snow{{}, {Line: -top}, {Line: top, Rate: top, Most: top, Hold: top}, {Line: minusZero, Rate: minusZero, Most: minusZero, Hold: minusZero}} {
		wantError(t, "CheckSnow", water.CheckSnow(s), api.OK)
	}
	for _, s := range badSnows() {
		wantError(t, "CheckSnow", water.CheckSnow(s.s), s.want)
		for _, b := range append(badFields(), badField{row(1, 2), s.want}) {
			g, e := water.Snow(b.f, s.s)
			wantNoField(t, "Snow", g, e, b.want)
		}
	}
}

// P84, G6: snow, with each operation rounded.
func TestSnow(t *testing.T) {
	n := &numbers{state: 27}
	for range 10 {
		for _, f := range n.fields(top) {
			for _, s := range []api.Snow{
				{Rate: n.share(), Most: 3 * n.share(), Hold: 4 * n.share()}, {Line: n.single() * 3, Rate: 1, Most: 2, Hold: 9}, {Line: -top, Rate: top, Most: top, Hold: top},
				{Line: n.height(top), Rate: n.share(), Most: top * n.share(), Hold: top * n.share()}, {Rate: 0, Most: 1, Hold: 1}, {Line: -1, Rate: 1, Most: 0, Hold: 1}, {Line: -1, Rate: 1, Most: 1, Hold: 0},
				{Line: -1, Rate: 1, Most: minusZero, Hold: 9}, {Line: -3 * tiny, Rate: 0.5, Most: 1, Hold: 9},
			} {
				g, e := water.Snow(f, s)
				wantField(t, "Snow", g, e, snowOn(f, s))
			}
		}
	}
}

// P84: known snow: below and at its line, at most, and on slopes in the four main directions alone.
func TestKnownSnow(t *testing.T) {
	s := api.Snow{Line: 1, Rate: 2, Most: 10, Hold: 4}
	for _, c := range []struct{ v, want float32 }{{0, 0}, {1, 0}, {after(1), 0x1p-22}, {2, 2}, {6, 10}, {9, 10}, {-top, 0}} {
		g, e := water.Snow(row(c.v), s)
		wantField(t, "Snow", g, e, row(c.want))
	}
	s.Line = -4
	for d := range 8 {
		for _, by := range []float32{1, -1, 3, -3, 4, -4, before(4), top, -top} {
			f := bowl(0, 0)
			f.V[neighbour(f.Region, 4, d)] = by
			g, e := water.Snow(f, s)
			want := float32(8)
			if d%2 == 0 {
				want = max(0, times(8, minus(1, over(max(by, -by), 4))))
			}
			if e != api.OK || !sameBits(g.V[4], want) {
				t.Errorf("Snow: got %v beside a step of %v to %d, want %v", g.V[4], by, d, want)
			}
		}
	}
}

// P85, G6: what is left, and how much melts, with each operation rounded.
func TestMelt(t *testing.T) {
	n := &numbers{state: 28}
	for range 10 {
		for _, f := range n.fields(top) {
			for _, warm := range []float32{0, n.share(), 10 * n.share(), top * n.share()} {
				snow := n.field(f.Region, func() float32 { return n.share() * float32(n.between(0, 9)) })
				if n.between(0, 3) == 0 {
					snow = n.field(f.Region, func() float32 { return n.share() * top })
				}
				want := api.Field{Region: f.Region}
				var melted []int
				for i, v := range snow.V {
					left := max(0, minus(v, over(warm, plus(1, max(0, f.V[i])))))
					want.V = append(want.V, left)
					melted = append(melted, int(down(times(minus(v, left), 1024))))
				}
				g, l, e := water.Melt(f, snow, warm)
				wantField(t, "Melt", g, e, want)
				wantList(t, "Melt", l, e, melted)
			}
		}
	}
}

// P85: known snow: what is gone is what the singles tell, not what was warm; ground below 0 is as warm as at 0.
func TestKnownMelting(t *testing.T) {
	g, l, e := water.Melt(row(0, 1, 3, -5, 1), row(1, 0.0625, 1, 1, 0), 0.25)
	wantField(t, "Melt", g, e, row(0.75, 0, 0.9375, 0.75, 0))
	wantList(t, "Melt", l, e, []int{256, 64, 64, 256, 0})
	g, l, e = water.Melt(row(0, 0, 0), row(0.25, before(0.25), after(0.25)), 0.25)
	wantField(t, "Melt", g, e, row(0, 0, 0x1p-25))
	wantList(t, "Melt", l, e, []int{256, 255, 256})
	g, l, e = water.Melt(row(0, 0, 0), row(top, 1, 0), 0.03125)
	wantField(t, "Melt", g, e, row(top, 0.96875, 0))
	wantList(t, "Melt", l, e, []int{0, 32, 0})
	g, l, e = water.Melt(row(-top, top), row(top, top), top)
	wantField(t, "Melt", g, e, row(0, minus(top, over(top, plus(top, 1)))))
	wantList(t, "Melt", l, e, []int{1 << 30, 1024})
	g, l, e = water.Melt(row(0, 0), row(1, 0), minusZero)
	wantField(t, "Melt", g, e, row(1, 0))
	wantList(t, "Melt", l, e, []int{0, 0})
}

// P85: the errors, in their order.
func TestMeltErrors(t *testing.T) {
	wantNo := func(f, snow api.Field, warm float32, want api.Errno) {
		t.Helper()
		g, l, e := water.Melt(f, snow, warm)
		wantNoField(t, "Melt", g, e, want)
		wantNoList(t, "Melt", l, e, want)
	}
	f, other := row(1, 2), of(1, 0, 2, 1, -1, 2)
	for _, b := range badFields() {
		wantNo(b.f, row(nan), nan, b.want)
		wantNo(b.f, b.f, 1, b.want)
		wantNo(f, b.f, nan, b.want)
		wantNo(f, b.f, -1, b.want)
	}
	for _, s := range badSingles(-top, top) {
		wantNo(f, other, s.v, s.want)
		wantNo(f, row(-1, 0), s.v, s.want)
	}
	for _, g := range []api.Field{other, row(1), row(1, 2, -1), of(0, 1, 2, 1, 1, 2), of(0, 0, 1, 2, 1, 2)} {
		wantNo(f, g, 1, api.ErrPlace)
		wantNo(f, g, -1, api.ErrPlace)
	}
	for _, warm := range []float32{-tiny, -1, -top} {
		wantNo(f, row(1, 1), warm, api.ErrRange)
	}
	wantNo(f, row(-tiny, 1), 1, api.ErrRange)
	wantNo(f, row(1, -tiny), 1, api.ErrRange)
	g, _, e := water.Melt(f, row(minusZero, math.SmallestNonzeroFloat32), 0)
	if e != api.OK || g.V[0] != 0 || g.V[1] != tiny {
		t.Error("Melt", g, e)
	}
}
