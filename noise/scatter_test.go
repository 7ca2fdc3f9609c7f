package noise_test

import (
	"math"
	"slices"
	"testing"

	"tarnfell/api"
	"tarnfell/noise"
)

func wantPlaces(t *testing.T, s api.Scatter, r api.Region, want []api.Point) {
	t.Helper()
	if l, e := noise.Scatter(s, r); e != api.OK || !slices.Equal(l, want) {
		t.Errorf("Scatter(%v, %v): got %v, error %d; want %v", s, r, l, e, want)
	}
}

// badScatter is a scatter with what CheckScatter says of it.
type badScatter struct {
	s    api.Scatter
	want api.Errno
}

func badScatters() []badScatter {
	var l []badScatter
	for _, cell := range []int{0, -1, 257, 1<<32 + 1, math.MaxInt, math.MinInt} {
		l = append(l, badScatter{api.Scatter{Cell: cell, Share: 0.5}, api.ErrRange}, badScatter{api.Scatter{Cell: cell, Share: nan, Apart: -1}, api.ErrRange})
	}
	for _, s := range badSingles(0, 1) {
		l = append(l, badScatter{api.Scatter{Cell: 4, Share: s.v, Apart: 1}, s.want}, badScatter{api.Scatter{Cell: 4, Share: s.v, Apart: -1}, s.want})
	}
	for _, apart := range []int{-1, 9, 1 << 32, math.MaxInt, math.MinInt} {
		l = append(l, badScatter{api.Scatter{Cell: 4, Share: 0.5, Apart: apart}, api.ErrRange})
	}
	return append(l, badScatter{api.Scatter{Cell: 256, Apart: 513}, api.ErrRange}, badScatter{api.Scatter{Cell: 1, Apart: 3}, api.ErrRange})
}

// P31: what a scatter may be, and the errors, in their order.
func TestCheckScatter(t *testing.T) {
	for _, s := range []api.Scatter{
		{Cell: 1}, {Cell: 256, Share: 1, Apart: 512}, {Cell: 4, Share: 0.5, Apart: 8}, {Cell: 4, Share: minusZero, Apart: 1}, {Seed: math.MaxUint32, Cell: 1, Share: tiny, Apart: 2},
	} {
		if e := noise.CheckScatter(s); e != api.OK {
			t.Error("CheckScatter", s, e)
		}
	}
	for _, s := range badScatters() {
		if e := noise.CheckScatter(s.s); e != s.want {
			t.Errorf("CheckScatter(%v) is %d, want %d", s.s, e, s.want)
		}
		if l, e := noise.Scatter(s.s, region(0, 0, 0, 0)); e != s.want || len(l) != 0 {
			t.Errorf("Scatter(%v): %v, error %d; want error %d", s.s, l, e, s.want)
		}
	}
	for _, s := range badRegions() {
		if l, e := noise.Scatter(api.Scatter{Cell: 4}, s.r); e != s.want || len(l) != 0 {
			t.Errorf("Scatter of %v: %v, error %d; want error %d", s.r, l, e, s.want)
		}
	}
}

// P31: Scatter chooses the places that a comparison of all candidates chooses, row by row.
func TestScatter(t *testing.T) {
	n := &numbers{state: 12}
	for _, cell := range []int{1, 2, 3, 6, 13} {
		for apart := 0; apart <= 2*cell; apart += 1 + cell/3 {
			for _, share := range []float32{0.1, n.share(), 0.9, 1} {
				s := api.Scatter{Seed: n.next(), Cell: cell, Share: share, Apart: apart}
				for _, r := range []api.Region{region(-2*cell-1, -3, 5*cell, 4*cell+3), region(n.place()/2, n.place()/2, 4*cell, 4*cell)} {
					wantPlaces(t, s, r, scattered(s, r))
				}
			}
		}
	}
	for _, s := range []api.Scatter{{Seed: 1, Cell: 256, Share: 1, Apart: 512}, {Seed: 2, Cell: 256, Share: 0.5, Apart: 200}, {Seed: 3, Cell: 100, Share: 0.75}} {
		for _, r := range []api.Region{region(-300, -50, 512, 128), region(api.MaxPlace-128, -api.MaxPlace, 128, 512)} {
			wantPlaces(t, s, r, scattered(s, r))
		}
	}
	wantPlaces(t, api.Scatter{Seed: 3, Cell: 6, Share: 0.75, Apart: 5}, region(-10, -8, 24, 16), []api.Point{{X: 8, Y: -4}, {X: -7, Y: -2}, {X: 11, Y: 1}, {X: -2, Y: 2}, {X: -9, Y: 4}})
}

// P31: of candidates with equal ranks, the one with the lesser row is chosen, and only then the one with the lesser column.
func TestScatterOfEqualRanks(t *testing.T) {
	r := region(4, 28, 8, 5)
	for _, s := range []struct {
		seed            uint32
		i, j, k, l      int
		chosen, dropped api.Point
	}{
		{468644, 1, 7, 2, 8, api.Point{X: 7, Y: 28}, api.Point{X: 11, Y: 32}},
		{468647, 2, 7, 1, 8, api.Point{X: 11, Y: 28}, api.Point{X: 7, Y: 32}},
	} {
		if noise.Hash(s.seed, s.i, s.j, 7) != noise.Hash(s.seed, s.k, s.l, 7) {
			t.Fatal("ranks differ", s)
		}
		wantPlaces(t, api.Scatter{Seed: s.seed, Cell: 4, Share: 0.3, Apart: 6}, r, []api.Point{s.chosen})
		wantPlaces(t, api.Scatter{Seed: s.seed, Cell: 4, Share: 0.3, Apart: 5}, r, []api.Point{s.chosen, s.dropped})
	}
}

// P31: a candidate is there if its chance is less than Share, not if it is equal.
func TestScatterShare(t *testing.T) {
	for n := range 40 {
		p := api.Point{X: n - 20, Y: 3 * n}
		chance := noise.Unit(noise.Hash(15, p.X, p.Y, 6))
		wantPlaces(t, api.Scatter{Seed: 15, Cell: 1, Share: chance}, region(p.X, p.Y, 1, 1), nil)
		wantPlaces(t, api.Scatter{Seed: 15, Cell: 1, Share: after(chance)}, region(p.X, p.Y, 1, 1), []api.Point{p})
	}
	wantPlaces(t, api.Scatter{Seed: 15, Cell: 2}, region(-50, -50, 100, 100), nil)
	wantPlaces(t, api.Scatter{Seed: 15, Cell: 2, Share: minusZero}, region(-50, -50, 100, 100), nil)
}

// P31: chosen places are more than Apart apart; with Apart 0 all candidates are chosen.
func TestScatterApart(t *testing.T) {
	r := region(-40, -30, 80, 60)
	for apart := 0; apart <= 10; apart++ {
		l, e := noise.Scatter(api.Scatter{Seed: 16, Cell: 5, Share: 1, Apart: apart}, r)
		if e != api.OK || len(l) == 0 || apart == 0 && len(l) != 16*12 {
			t.Error("Scatter", apart, l, e)
		}
		for n, p := range l {
			for _, q := range l[:n] {
				if squareOf(p, q) <= apart*apart {
					t.Error("too close", apart, p, q)
				}
			}
		}
	}
}

// P31: whether a place is chosen does not hang on the region.
func TestScatterOfParts(t *testing.T) {
	n := &numbers{state: 13}
	s := api.Scatter{Seed: 17, Cell: 7, Share: 0.8, Apart: 11}
	whole := region(-60, -50, 120, 100)
	all, _ := noise.Scatter(s, whole)
	for range 100 {
		r := region(n.between(-60, 50), n.between(-50, 40), n.between(1, 10), n.between(1, 10))
		var want []api.Point
		for _, p := range all {
			if p.X >= r.X && p.X < r.X+r.W && p.Y >= r.Y && p.Y < r.Y+r.H {
				want = append(want, p)
			}
		}
		wantPlaces(t, s, r, want)
	}
}
