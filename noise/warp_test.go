package noise_test

import (
	"testing"

	"tarnfell/api"
	"tarnfell/noise"
)

func warps() []api.Warp {
	n := &numbers{state: 8}
	var l []api.Warp
	for _, kind := range kinds {
		for _, amount := range []float32{0, minusZero, tiny, 0.5, 1, 7.3, n.share() * 64, api.MaxAmount} {
			for _, octaves := range []int{1, 4, 10} {
				f := api.Fractal{Kind: kind, Seed: n.next(), Cell: n.between(1, 100), Octaves: octaves, Gain: n.share()}
				l = append(l, api.Warp{Fractal: f, Amount: amount})
			}
		}
	}
	return l
}

// badWarp is a warp with what CheckWarp says of it.
type badWarp struct {
	w    api.Warp
	want api.Errno
}

func badWarps() []badWarp {
	var l []badWarp
	for _, s := range badFractals() {
		l = append(l, badWarp{api.Warp{Fractal: s.f, Amount: 1}, s.want}, badWarp{api.Warp{Fractal: s.f, Amount: nan}, s.want}, badWarp{api.Warp{Fractal: s.f, Amount: -1}, s.want})
	}
	for _, s := range badSingles(0, api.MaxAmount) {
		f := api.Fractal{Kind: api.NoiseCells, Cell: 4096, Octaves: 10, Gain: 1}
		l = append(l, badWarp{api.Warp{Fractal: f, Amount: s.v}, s.want})
	}
	return l
}

// ridges moves all places by twice its amount, rounded.
func ridges(amount float32) api.Warp {
	return api.Warp{Fractal: api.Fractal{Kind: api.NoiseRidge, Cell: 1, Octaves: 2, Gain: 1}, Amount: amount}
}

// P30: what a warp may be, and the errors, in their order.
func TestCheckWarp(t *testing.T) {
	for _, w := range warps() {
		if e := noise.CheckWarp(w); e != api.OK {
			t.Error("CheckWarp", w, e)
		}
	}
	for _, s := range badWarps() {
		if e := noise.CheckWarp(s.w); e != s.want {
			t.Errorf("CheckWarp(%v) is %d, want %d", s.w, e, s.want)
		}
	}
}

// P30, G6: Warp moves places, by no more than Margin, also over the end of the plane.
func TestWarp(t *testing.T) {
	n := &numbers{state: 9}
	for _, w := range warps() {
		margin, e := noise.Margin(w)
		if want := int(down(times(reachOf(w.Fractal), w.Amount))) + 1; e != api.OK || margin != want {
			t.Errorf("Margin(%v) is %d, error %d; want %d", w, margin, e, want)
		}
		places := []api.Point{{X: api.MaxPlace, Y: api.MaxPlace}, {X: -api.MaxPlace, Y: -api.MaxPlace}}
		for range 15 {
			places = append(places, api.Point{X: n.place(), Y: n.place()})
		}
		for _, p := range places {
			q, e := noise.Warp(w, p.X, p.Y)
			if e != api.OK || q != warped(w, p.X, p.Y) {
				t.Errorf("Warp(%v, %v) is %v, error %d; want %v", w, p, q, e, warped(w, p.X, p.Y))
			}
			if max(q.X-p.X, p.X-q.X, q.Y-p.Y, p.Y-q.Y) > margin {
				t.Errorf("Warp(%v, %v) is %v, but Margin is %d", w, p, q, margin)
			}
		}
	}
}

// P30: known places and margins.
func TestWarpOfKinds(t *testing.T) {
	for _, s := range []struct {
		kind, margin int
		at           api.Point
	}{
		{api.NoiseValue, 48, api.Point{X: -43, Y: 106}},
		{api.NoiseGradient, 96, api.Point{X: -38, Y: 87}},
		{api.NoiseCells, 144, api.Point{X: -10, Y: 111}},
		{api.NoiseRidge, 48, api.Point{X: 2, Y: 127}},
	} {
		w := api.Warp{Fractal: api.Fractal{Kind: s.kind, Seed: 42, Cell: 48, Octaves: 6, Gain: 0.6}, Amount: 20}
		if p, e := noise.Warp(w, -37, 91); e != api.OK || p != s.at {
			t.Error("Warp", s, p, e)
		}
		if m, e := noise.Margin(w); e != api.OK || m != s.margin {
			t.Error("Margin", s, m, e)
		}
	}
}

// P30, G6: moves are rounded to the nearest integer, halves upwards; the sum with 0.5 is rounded itself, so that what is next to a half goes upwards, too.
func TestWarpRounds(t *testing.T) {
	for _, s := range []struct {
		amount       float32
		move, margin int
	}{
		{0, 0, 1}, {0.125, 0, 1}, {before(before(0.25)), 0, 1}, {before(0.25), 1, 1}, {0.25, 1, 1}, {0.5, 1, 2}, {0.75, 2, 2}, {1.25, 3, 3}, {64, 128, 129},
	} {
		p, e := noise.Warp(ridges(s.amount), 10, -20)
		if e != api.OK || p != (api.Point{X: 10 + s.move, Y: -20 + s.move}) {
			t.Error("Warp", s, p, e)
		}
		if m, e := noise.Margin(ridges(s.amount)); e != api.OK || m != s.margin {
			t.Error("Margin", s, m, e)
		}
	}
}

// P30: Warped takes the value at the place to which Warp leads.
func TestWarped(t *testing.T) {
	n := &numbers{state: 10}
	r := region(-6, 4, 9, 7)
	f := n.field(region(-130, -120, 256, 256), 1000)
	for _, kind := range kinds {
		for _, amount := range []float32{0, 1, 9.7} {
			w := api.Warp{Fractal: api.Fractal{Kind: kind, Seed: n.next(), Cell: 5, Octaves: 3, Gain: 0.5}, Amount: amount}
			g, e := noise.Warped(f, w, r)
			wantCells(t, "Warped", g, e, r, func(x, y int) float32 {
				p := warped(w, x, y)
				return valueAt(f, p.X, p.Y)
			})
		}
	}
	f.V[0] = minusZero
	still := ridges(0)
	g, e := noise.Warped(f, still, f.Region)
	wantCells(t, "Warped by nothing", g, e, f.Region, func(x, y int) float32 { return valueAt(f, x, y) })
}

// P30: the field must have all places, and need not have any others.
func TestWarpedAtEdges(t *testing.T) {
	n := &numbers{state: 11}
	r, all := region(0, 0, 4, 3), region(6, 6, 4, 3)
	f := n.field(all, 1000)
	g, e := noise.Warped(f, ridges(3), r)
	wantCells(t, "Warped", g, e, r, func(x, y int) float32 { return valueAt(f, x+6, y+6) })
	for _, less := range []api.Region{region(7, 6, 4, 3), region(5, 6, 4, 3), region(6, 7, 4, 3), region(6, 5, 4, 3), region(6, 6, 3, 3), region(6, 6, 4, 2), r} {
		g, e = noise.Warped(n.field(less, 1), ridges(3), r)
		wantNoField(t, "Warped", g, e, api.ErrPlace)
	}
	end := region(api.MaxPlace-2, api.MaxPlace-2, 2, 2)
	g, e = noise.Warped(n.field(end, 1), ridges(1), end)
	wantNoField(t, "Warped", g, e, api.ErrPlace)
}

// P30: the errors of Warp, Margin and Warped, and their order.
func TestWarpErrors(t *testing.T) {
	good := api.Field{Region: region(0, 0, 1, 1), V: []float32{1}}
	for _, s := range badWarps() {
		p, e := noise.Warp(s.w, api.MaxPlace+1, 0)
		if e != s.want || p != (api.Point{}) {
			t.Error("Warp", s, p, e)
		}
		m, e := noise.Margin(s.w)
		if e != s.want || m != 0 {
			t.Error("Margin", s, m, e)
		}
		for _, f := range []api.Field{good, {}, {Region: good.Region, V: []float32{nan}}} {
			g, e := noise.Warped(f, s.w, region(0, 0, 0, 0))
			wantNoField(t, "Warped", g, e, s.want)
		}
	}
	for _, p := range badPlaces() {
		q, e := noise.Warp(ridges(1), p.X, p.Y)
		if e != api.ErrPlace || q != (api.Point{}) {
			t.Error("Warp", p, q, e)
		}
	}
	for _, s := range badFields() {
		g, e := noise.Warped(s.f, ridges(1), region(0, 0, 0, 0))
		wantNoField(t, "Warped", g, e, s.want)
	}
	for _, s := range badRegions() {
		g, e := noise.Warped(good, ridges(0), s.r)
		wantNoField(t, "Warped", g, e, s.want)
	}
}
