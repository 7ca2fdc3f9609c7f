package level_test

import (
	"math"
	"testing"

	"tarnfell/api"
	"tarnfell/level"
)

// evenRegions can be halved.
func evenRegions() []api.Region {
	return []api.Region{region(0, 0, 2, 2), region(-2, -4, 8, 6), region(6, -10, 12, 20), region(-edge, edge-8, 16, 8), region(edge-2, -edge, 2, 32)}
}

// P205, G6: Down rounds each sum, in the told order, and halves the region.
func TestDown(t *testing.T) {
	n := &numbers{state: 1}
	for _, r := range evenRegions() {
		for _, f := range n.fields(r, top) {
			g, e := level.Down(f)
			wantField(t, "Down", g, e, levelOf(f, 1))
		}
	}
}

// P205: known values of Down: the sums go by rows, zeros keep their sign, and what is too small is rounded.
func TestKnownDowns(t *testing.T) {
	for _, s := range []struct{ a, b, c, d, want float32 }{
		{1, 3, 2, 2, 2}, {1, 2, 3, 5, 2.75}, {top, top, top, top, top}, {-top, -top, -top, -top, -top},
		{1, 0x1p-24, 0x1p-24, 0x1p-24, 0.25 + 0x1p-25}, {0x1p-24, 0x1p-24, 1, 0x1p-24, 0.25 + 0x1p-25}, {1, 0x1p-24, 0, 0x1p-24, 0.25},
		{1, 0, 0x1p-24, 0x1p-24, 0.25 + 0x1p-25}, {1, 0x1p-24, 0x1p-24, 0, 0.25}, {1, -1, 0x1p-30, 0, 0x1p-32}, {1, 0x1p-30, -1, 0, 0},
		{minusZero, minusZero, minusZero, minusZero, minusZero}, {minusZero, minusZero, minusZero, 0, 0},
		{tiny, 0, 0, 0, 0}, {tiny, tiny, 0, 0, 0}, {tiny, tiny, tiny, 0, tiny}, {tiny, tiny, tiny, tiny, tiny}, {-tiny, 0, 0, 0, minusZero},
	} {
		g, e := level.Down(of(-2, 4, 2, 2, s.a, s.b, s.c, s.d))
		wantField(t, "Down", g, e, of(-1, 2, 1, 1, s.want))
	}
	g, e := level.Down(of(2, -6, 4, 4, 1, 2, 5, 6, 3, 4, 7, 8, 10, 10, 20, 20, 10, 10, 20, 24))
	wantField(t, "Down", g, e, of(1, -3, 2, 2, 2.5, 6.5, 10, 21))
}

// P205: Down needs even numbers.
func TestDownErrors(t *testing.T) {
	for _, r := range []api.Region{
		region(1, 0, 2, 2), region(0, 1, 2, 2), region(0, 0, 3, 2), region(0, 0, 2, 3), region(-1, 0, 2, 2), region(0, -1, 2, 2), region(0, 0, 1, 1),
		region(-3, -3, 5, 5), region(edge-3, 0, 2, 2), region(0, 1-edge, 2, 2),
	} {
		g, e := level.Down(flat(r, 1))
		wantNothing(t, "Down", isSome(g), e, api.ErrForm)
	}
	g, e := level.Down(flat(region(1, 1, 3, 3), beyond))
	wantNothing(t, "Down", isSome(g), e, api.ErrRange)
	g, e = level.Down(flat(region(1, 1, 512, 129), 1))
	wantNothing(t, "Down", isSome(g), e, api.ErrLarge)
}

// P205: Up gives each cell the value of the one over it, on both sides of 0.
func TestUp(t *testing.T) {
	n := &numbers{state: 2}
	for _, r := range []api.Region{region(0, 0, 3, 2), region(-2, -3, 5, 4), region(7, -9, 1, 6), region(-1, -1, 1, 1), region(-edge/2, edge/2-3, 4, 3)} {
		for _, f := range n.fields(r, top) {
			fine := region(2*r.X, 2*r.Y, 2*r.W, 2*r.H)
			for range 20 {
				a, b := n.pointIn(fine), n.pointIn(fine)
				part := region(min(a.X, b.X), min(a.Y, b.Y), max(a.X-b.X, b.X-a.X)+1, max(a.Y-b.Y, b.Y-a.Y)+1)
				g, e := level.Up(f, part)
				wantField(t, "Up", g, e, eachCell(part, func(p api.Point) float32 { return valueOf(f, at(quotient(p.X, 2), quotient(p.Y, 2))) }))
			}
			g, e := level.Up(f, fine)
			if e != api.OK || g.Region != fine {
				t.Error("Up", g.Region, e)
			}
			if f.W*f.H < 9 {
				g, e = level.Down(g)
				wantError(t, "Down of Up", e, api.OK)
				if g.Region != f.Region {
					t.Error("Down of Up", g.Region, f.Region)
				}
			}
		}
	}
	g, e := level.Up(of(-1, 3, 2, 1, 5, 7), region(-1, 6, 3, 2))
	wantField(t, "Up", g, e, of(-1, 6, 3, 2, 5, 7, 7, 5, 7, 7))
}

// P205: the errors of Up, and their order.
func TestUpErrors(t *testing.T) {
	f := flat(region(-2, 3, 3, 2), 1)
	for _, s := range badRegions() {
		g, e := level.Up(f, s.r)
		wantNothing(t, "Up", isSome(g), e, s.want)
		g, e = level.Up(of(0, 0, 1, 1, nan), s.r)
		wantNothing(t, "Up", isSome(g), e, api.ErrForm)
	}
	for _, r := range []api.Region{
		region(-5, 6, 2, 1), region(-4, 5, 1, 1), region(1, 6, 2, 1), region(0, 9, 1, 2), region(2, 6, 1, 1), region(-4, 10, 1, 1), region(-5, 5, 8, 6),
		region(-2, 3, 3, 2), region(-edge, -edge, 1, 1), region(edge-1, edge-1, 1, 1), region(-4, 6, 7, 4), region(-4, 6, 6, 5), region(-5, 6, 7, 4), region(-4, 5, 6, 5),
	} {
		g, e := level.Up(f, r)
		wantNothing(t, "Up", isSome(g), e, api.ErrPlace)
	}
	g, e := level.Up(f, region(-4, 6, 6, 4))
	wantField(t, "Up", g, e, flat(region(-4, 6, 6, 4), 1))
}

// P206: Pyramid has the field, and of each level Down.
func TestPyramid(t *testing.T) {
	n := &numbers{state: 3}
	for _, r := range append(evenRegions(), region(-64, 64, 32, 96), region(1, 1, 3, 1), region(256, -512, 256, 256), region(0, 0, 512, 128)) {
		most := 1 + halves(r, 20)
		for many := -1; many <= 12; many++ {
			f := n.field(r, n.single)
			l, e := level.Pyramid(f, many)
			switch {
			case many < 1 || many > 10:
				wantNothing(t, "Pyramid", len(l) > 0, e, api.ErrRange)
			case many > most:
				wantNothing(t, "Pyramid", len(l) > 0, e, api.ErrForm)
			default:
				if e != api.OK || len(l) != many {
					t.Errorf("Pyramid of %v: %d levels, error %d; want %d", r, len(l), e, many)
					continue
				}
				wantField(t, "Pyramid", l[0], e, f)
				for k, g := range l[1:] {
					down, e := level.Down(l[k])
					wantField(t, "Pyramid", g, e, down)
				}
			}
		}
	}
	l, e := level.Pyramid(of(0, 0, 4, 2, 1, 3, 5, 5, 2, 2, 5, 5), 2)
	if e != api.OK || len(l) != 2 || !sameField(l[1], of(0, 0, 2, 1, 2, 5)) {
		t.Error("Pyramid", l, e)
	}
}

// P206: the errors of Pyramid and Losses; those of Down come behind those of many.
func TestPyramidErrors(t *testing.T) {
	for _, many := range outside(1, 10) {
		for _, r := range []api.Region{region(0, 0, 2, 2), region(1, 0, 2, 2)} {
			l, e := level.Pyramid(flat(r, 1), many)
			wantNothing(t, "Pyramid", len(l) > 0, e, api.ErrRange)
			losses, e := level.Losses(flat(r, 1), many)
			wantNothing(t, "Losses", len(losses) > 0, e, api.ErrRange)
		}
	}
	for many := 1; many <= 10; many++ {
		for _, s := range badFields() {
			l, e := level.Pyramid(s.f, many)
			wantNothing(t, "Pyramid", len(l) > 0, e, s.want)
			losses, e := level.Losses(s.f, many)
			wantNothing(t, "Losses", len(losses) > 0, e, s.want)
		}
		// Only levels that are asked for must be there.
		f := flat(region(4, -8, 12, 20), 1)
		l, e := level.Pyramid(f, many)
		losses, e2 := level.Losses(f, many)
		if many <= 3 {
			wantError(t, "Pyramid", e, api.OK)
			wantError(t, "Losses", e2, api.OK)
			continue
		}
		wantNothing(t, "Pyramid", len(l) > 0, e, api.ErrForm)
		wantNothing(t, "Losses", len(losses) > 0, e2, api.ErrForm)
	}
}

// P206, P288, G6, G7: Losses are the greatest differences, at most twice the greatest magnitude.
func TestLosses(t *testing.T) {
	n := &numbers{state: 4}
	for _, r := range append(evenRegions(), region(-16, 8, 16, 24), region(-64, -32, 32, 32), region(3, 3, 3, 3)) {
		for _, f := range n.fields(r, top/2) {
			many := 1 + halves(r, 9)
			l, e := level.Losses(f, many)
			wantSingles(t, "Losses", l, e, lossesOf(f, many)...)
			most := float32(0)
			for _, v := range f.V {
				most = max(most, size(v))
			}
			for _, loss := range l {
				if loss > 2*most {
					t.Errorf("Losses: %v, with heights up to %v", loss, most)
				}
			}
		}
		l, e := level.Losses(flat(r, -12.3), 1+halves(r, 9))
		wantSingles(t, "Losses of a constant field", l, e, make([]float32, 1+halves(r, 9))...)
	}
}

// P206, G7: known losses, and such as are no heights.
func TestKnownLosses(t *testing.T) {
	l, e := level.Losses(of(-2, 0, 4, 2, 1, 3, 5, 5, 2, 2, 5, 5), 2)
	wantSingles(t, "Losses", l, e, 0, 1)
	l, e = level.Losses(of(-4, -4, 4, 4, 0, 0, 8, 8, 0, 4, 8, 8, 0, 0, 0, 0, 0, 0, 0, -2), 3)
	wantSingles(t, "Losses", l, e, 0, 3, 8-2.125)
	l, e = level.Losses(of(0, 0, 2, 2, minusZero, minusZero, minusZero, minusZero), 2)
	wantSingles(t, "Losses", l, e, 0, 0)
	l, e = level.Losses(of(0, 0, 2, 2, top, -top/3, -top/3, -top/3), 2)
	wantSingles(t, "Losses", l, e, 0, top)
	for _, v := range []float32{-top / 2, -top} {
		l, e = level.Losses(of(0, 0, 2, 2, top, v, v, v), 2)
		wantNothing(t, "Losses", len(l) > 0, e, api.ErrRange)
		l, e = level.Losses(of(0, 0, 2, 2, v, v, v, top), 1)
		wantSingles(t, "Losses", l, e, 0)
	}
	l, e = level.Losses(of(0, 0, 2, 2, top, -top, -top, -top), 3)
	wantNothing(t, "Losses", len(l) > 0, e, api.ErrForm)
	l, e = level.Losses(of(0, 0, 1, 1, top), 1)
	wantSingles(t, "Losses", l, e, 0)
	l, e = level.Losses(of(0, 0, 1, 1, float32(math.Pi)), 2)
	wantNothing(t, "Losses", len(l) > 0, e, api.ErrForm)
}
