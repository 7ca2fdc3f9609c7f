package level_test

import (
	"math"
	"testing"

	"tarnfell/api"
	"tarnfell/level"
)

// eyes look from above, from beside, from far away, and from within.
func (n *numbers) eyes(r api.Region) []api.Eye {
	height := func(v float32) float32 { return min(top, max(-top, v)) }
	x, y := height(float32(r.X)+n.share()*float32(r.W)), height(float32(r.Y)+n.share()*float32(r.H))
	return []api.Eye{
		{X: x, Y: y, H: 3, Scale: 0.02}, {X: x, Y: y, H: 30, Scale: 0.03}, {X: height(x - 60), Y: height(y + 20), H: -4, Scale: n.share() * 0.1},
		{X: top, Y: -top, H: top, Scale: 0}, {X: x, Y: y, Scale: top}, {X: x, Y: y, H: n.single() * 9, Scale: n.share() * 0.3}, {Scale: minusZero},
	}
}

// wild is a field that is rough at some places, and smooth at others.
func (n *numbers) wild(r api.Region) api.Field {
	return eachCell(r, func(p api.Point) float32 {
		rough := float32(math.Sin(float64(p.X)/19) * math.Cos(float64(p.Y)/23))
		return rough*rough*rough*n.single()*4 + float32(p.X)*0.01
	})
}

// P211, G6: Patches of tiles that lie anywhere, for eyes that look from anywhere.
func TestPatches(t *testing.T) {
	n := &numbers{state: 20}
	many := map[int]int{}
	for _, r := range []api.Region{
		region(0, 0, 64, 64), region(-64, -32, 64, 96), region(-10, 5, 50, 40), region(7, -9, 33, 60), region(-edge, edge-64, 64, 64), region(edge-41, -edge, 41, 50),
		region(1, 1, 1, 1), region(-3, 9, 200, 1), region(8, -20, 1, 90), region(-64, -64, 192, 128), region(4, 2, 100, 90),
	} {
		for _, side := range []int{8, 16, 32, 64} {
			f := n.wild(r)
			for _, eye := range n.eyes(r) {
				l, e := level.Patches(f, side, eye)
				wantList(t, "Patches", l, e, patchesOf(f, side, eye)...)
				for _, p := range l {
					many[p.Level]++
				}
			}
		}
	}
	for k := 0; k <= 5; k++ {
		if many[k] == 0 {
			t.Error("no patch of the level", k)
		}
	}
}

// P211, P206: a tile has as many levels as Down can make of it, itself among them, but at most 6, of which the last one has the number 5. Those of tiles at odd places, or cut by the edge of the field, are fewer.
func TestLevelsOfPatches(t *testing.T) {
	for _, s := range []struct {
		r    api.Region
		side int
		want int
	}{
		{region(0, 0, 8, 8), 8, 3}, {region(16, -32, 16, 16), 16, 4}, {region(-32, 96, 32, 32), 32, 5}, {region(64, -64, 64, 64), 64, 5}, {region(0, 0, 64, 64), 64, 5},
		{region(0, 0, 8, 8), 64, 3}, {region(8, 8, 8, 8), 64, 3}, {region(4, 0, 4, 8), 8, 2}, {region(2, 2, 4, 4), 8, 1}, {region(1, 0, 4, 4), 8, 0}, {region(0, 0, 8, 7), 8, 0},
		{region(32, 0, 32, 32), 64, 5}, {region(0, 0, 48, 48), 64, 4}, {region(0, 0, 64, 62), 64, 1},
	} {
		l, e := level.Patches(flat(s.r, 5), s.side, api.Eye{X: 9, Scale: 1})
		wantList(t, "Patches", l, e, api.Patch{Region: s.r, Level: s.want})
	}
}

// P211: the last level that loses no more than the distance times Scale, even if one before it loses more.
func TestKnownPatches(t *testing.T) {
	f := of(0, 0, 4, 2, 1, 3, 5, 5, 2, 2, 5, 5)
	// The middle is at (2, 1), and halfway between 1 and 5: 12 away. The only level loses 1.
	for _, s := range []struct {
		scale float32
		want  int
	}{{1.0 / 12, 1}, {before(1.0 / 12), 0}, {0, 0}, {minusZero, 0}, {top, 1}} {
		for _, eye := range []api.Eye{{X: 2, Y: 1, H: 15}, {X: 14, Y: 1, H: 3}, {X: 2, Y: -11, H: 3}, {X: 10, Y: 9, H: 7}, {X: -2, Y: -7, H: -5}} {
			eye.Scale = s.scale
			if distance := distanceOf(f, eye); distance != 12 {
				t.Fatal("distance", distance)
			}
			l, e := level.Patches(f, 8, eye)
			wantList(t, "Patches", l, e, api.Patch{Region: f.Region, Level: s.want})
		}
	}
	// The second level loses more than the third one: some of its means are further from their cells than the mean of all is.
	f = of(0, 0, 4, 4, 1, 1, -1, 1, 1, -1, -1, -1, -1, -1, 1, 1, -1, 1, 1, -1)
	losses := lossesOf(f, 3)
	if losses[1] <= losses[2] {
		t.Fatal("losses", losses)
	}
	l, e := level.Patches(f, 8, api.Eye{X: 2, Y: 2, H: 1, Scale: losses[2]})
	wantList(t, "Patches", l, e, api.Patch{Region: f.Region, Level: 2})
	l, e = level.Patches(f, 8, api.Eye{X: 2, Y: 2, H: 1, Scale: before(losses[2])})
	wantList(t, "Patches", l, e, api.Patch{Region: f.Region})
}

// P211, G7: what a tile loses need be no height.
func TestPatchesOfSteepTiles(t *testing.T) {
	f := of(0, 0, 2, 2, top, -top, -top, -top)
	_, e := level.Losses(f, 2)
	wantError(t, "Losses", e, api.ErrRange)
	l, e := level.Patches(f, 8, api.Eye{X: 5, Scale: top})
	wantList(t, "Patches", l, e, api.Patch{Region: f.Region, Level: 1})
	l, e = level.Patches(f, 8, api.Eye{X: 5, Scale: 1})
	wantList(t, "Patches", l, e, api.Patch{Region: f.Region})
}

// P211: levels of tiles that touch differ by at most 1, however far the way from the lowest one is; corners do not touch.
func TestLevelledPatches(t *testing.T) {
	r := region(0, 0, 64*3, 64*3)
	rough := func(x, y int) api.Field {
		f := flat(r, 0)
		for i := range 64 * 64 {
			f.V[(y*64+i/64)*r.W+x*64+i%64] = float32((i + i/64) % 2 * 1000)
		}
		return f
	}
	eye := api.Eye{H: 20, Scale: 0.01}
	for _, s := range []struct{ x, y int }{{0, 0}, {1, 0}, {2, 1}, {1, 1}, {2, 2}} {
		l, e := level.Patches(rough(s.x, s.y), 64, eye)
		var want []api.Patch
		for y := range 3 {
			for x := range 3 {
				away := max(x-s.x, s.x-x) + max(y-s.y, s.y-y)
				want = append(want, api.Patch{Region: region(x*64, y*64, 64, 64), Level: away})
			}
		}
		wantList(t, "Patches", l, e, want...)
	}
	// Of one row, where the last tile is rough, those before it fall, one after the other.
	f := flat(region(0, 0, 512, 64), 0)
	f.V[511], f.V[510] = 1000, -1000
	l, e := level.Patches(f, 64, api.Eye{X: 512, Scale: 0.01})
	wantError(t, "Patches", e, api.OK)
	for i, want := range []int{5, 5, 5, 4, 3, 2, 1, 0} {
		if i < len(l) && l[i].Level != want {
			t.Error("Patches", i, l[i], want)
		}
	}
}

// P211: there may be more tiles than a world has.
func TestManyPatches(t *testing.T) {
	for _, r := range []api.Region{region(1, 1, 512, 128), region(-255, 5, 256, 256)} {
		l, e := level.Patches(flat(r, 1), 8, api.Eye{Scale: 1})
		tiles := tilesOf(r, 8)
		if e != api.OK || len(l) != len(tiles) || len(l) <= api.MaxTiles {
			t.Error("Patches", len(l), len(tiles), e)
			continue
		}
		for i, p := range l {
			if p.Region != tiles[i] {
				t.Error("Patches", i, p, tiles[i])
			}
		}
	}
}

// P211: the errors of Patches, and their order.
func TestPatchesErrors(t *testing.T) {
	f := flat(region(0, 0, 8, 8), 1)
	sides := append(outside(8, 64), 0, 1, 2, 4, 9, 12, 15, 24, 31, 48, 63, 128, -8)
	for _, side := range sides {
		for _, eye := range []api.Eye{{Scale: 1}, {X: nan}, {Scale: -1}} {
			l, e := level.Patches(f, side, eye)
			wantNothing(t, "Patches", len(l) > 0, e, api.ErrRange)
		}
	}
	for _, side := range []int{8, 16, 32, 64} {
		for _, s := range badSingles(-top, top) {
			for _, eye := range []api.Eye{{X: s.v}, {Y: s.v}, {H: s.v}, {Scale: s.v}, {X: s.v, Scale: -1}, {X: 1, Y: s.v, H: -2}} {
				l, e := level.Patches(f, side, eye)
				wantNothing(t, "Patches", len(l) > 0, e, s.want)
			}
			l, e := level.Patches(f, side, api.Eye{X: beyond, H: s.v, Scale: -1})
			wantNothing(t, "Patches", len(l) > 0, e, s.want)
		}
		for _, eye := range []api.Eye{{Scale: -tiny}, {Scale: -top}, {X: 1, Y: 1, H: 1, Scale: -1}} {
			l, e := level.Patches(f, side, eye)
			wantNothing(t, "Patches", len(l) > 0, e, api.ErrRange)
		}
		l, e := level.Patches(f, side, api.Eye{X: top, Y: -top, H: top, Scale: top})
		wantList(t, "Patches", l, e, api.Patch{Region: f.Region, Level: 3})
	}
}
