package tile_test

import (
	"math"
	"slices"
	"testing"

	"tarnfell/api"
	"tarnfell/field"
	"tarnfell/tile"
)

var badSides = []int{0, -1, 257, -8, 512, 1 << 32, 1<<32 + 8, math.MaxInt, math.MinInt}

// P175: the tile of a cell is a square at multiples of side that has the cell.
func TestTile(t *testing.T) {
	for _, side := range []int{1, 2, 3, 7, 8, 10, 255, 256} {
		for y := -25; y < 25; y++ {
			for x := -25; x < 25; x++ {
				r, e := tile.Tile(side, x, y)
				if e != api.OK || r.W != side || r.H != side || r.X%side != 0 || r.Y%side != 0 || !covers(r, x, y) {
					t.Fatalf("Tile(%d, %d, %d): %v, error %d", side, x, y, r, e)
				}
			}
		}
	}
	for _, s := range []struct {
		side, x, y int
		want       api.Region
	}{
		{8, -1, 9, region(-8, 8, 8, 8)}, {8, -8, 7, region(-8, 0, 8, 8)}, {8, -9, 8, region(-16, 8, 8, 8)}, {1, -5, 6, region(-5, 6, 1, 1)},
		{256, far, -far, region(far, -far, 256, 256)}, {256, far - 1, -far + 256, region(far-256, -far+256, 256, 256)},
		{100, -far, far, region(-4194400, 4194300, 100, 100)},
	} {
		if r, e := tile.Tile(s.side, s.x, s.y); r != s.want || e != api.OK {
			t.Errorf("Tile(%d, %d, %d): %v, error %d; want %v", s.side, s.x, s.y, r, e, s.want)
		}
	}
}

// P175: the errors of Tile, in their order.
func TestTileErrors(t *testing.T) {
	bad := []int{far + 1, -far - 1, 1 << 32, math.MaxInt, math.MinInt}
	for _, side := range badSides {
		r, e := tile.Tile(side, 0, 0)
		wantNothing(t, "Tile", r != api.Region{}, e, api.ErrRange)
		r, e = tile.Tile(side, bad[0], bad[1])
		wantNothing(t, "Tile", r != api.Region{}, e, api.ErrRange)
	}
	for _, n := range bad {
		r, e := tile.Tile(256, n, 0)
		wantNothing(t, "Tile", r != api.Region{}, e, api.ErrPlace)
		r, e = tile.Tile(1, far, n)
		wantNothing(t, "Tile", r != api.Region{}, e, api.ErrPlace)
	}
}

func wantTiles(t *testing.T, r api.Region, side int) {
	t.Helper()
	l, e := tile.Tiles(r, side)
	if want := tilesOf(r, side); e != api.OK || !slices.Equal(l, want) {
		t.Errorf("Tiles(%v, %d): %v, error %d; want %v", r, side, l, e, want)
	}
}

// P175: the tiles of a region, row by row, cover each of its cells once, and are parts of the tiles of their cells.
func TestTiles(t *testing.T) {
	n := &numbers{state: 1}
	for range 2000 {
		wantTiles(t, n.region(20), n.between(1, 30))
	}
	for _, r := range []api.Region{region(0, 0, 512, 128), region(-1, -1, 128, 512), region(255, 256, 256, 256), region(-far, -far, 300, 200), region(far-300, far-200, 300, 200)} {
		for _, side := range []int{16, 31, 255, 256} {
			wantTiles(t, r, side)
		}
	}
	for range 50 {
		r, side := n.region(20), n.between(1, 9)
		l, _ := tile.Tiles(r, side)
		for y := r.Y; y < r.Y+r.H; y++ {
			for x := r.X; x < r.X+r.W; x++ {
				var found []api.Region
				for _, part := range l {
					if covers(part, x, y) {
						found = append(found, part)
					}
				}
				whole, _ := tile.Tile(side, x, y)
				if len(found) != 1 || !field.Inside(found[0], whole) {
					t.Fatalf("Tiles(%v, %d): the cell (%d, %d) is in %v", r, side, x, y, found)
				}
			}
		}
	}
}

// P175: there may be MaxTiles tiles, which are counted as tiles, not as cells.
func TestMostTiles(t *testing.T) {
	for _, s := range []struct {
		r    api.Region
		side int
		want int // 0: too many
	}{
		{region(3, 5, 32, 32), 1, 1024}, {region(-3, 5, 512, 2), 1, 1024}, {region(-3, 5, 2, 512), 1, 1024}, {region(0, 0, 33, 31), 1, 1023}, {region(0, 0, 41, 25), 1, 0},
		{region(0, 0, 5, 205), 1, 0}, {region(0, 0, 64, 64), 1, 0}, {region(-64, 2, 64, 64), 2, 1024}, {region(1, 0, 64, 64), 2, 0}, {region(0, -1, 64, 64), 2, 0}, {region(1, 1, 62, 62), 2, 1024},
		{region(0, 0, 256, 256), 8, 1024}, {region(7, 7, 256, 250), 8, 0}, {region(0, 0, 256, 256), 7, 0},
	} {
		l, e := tile.Tiles(s.r, s.side)
		want := api.OK
		if s.want == 0 {
			want = api.ErrLarge
		}
		if len(l) != s.want || e != want {
			t.Errorf("Tiles(%v, %d): %d of them, error %d; want %d", s.r, s.side, len(l), e, s.want)
		}
	}
}

var badRegions = []struct {
	r    api.Region
	want api.Errno
}{
	{region(0, 0, 0, 4), api.ErrRange}, {region(0, 0, 4, -1), api.ErrRange}, {region(0, 0, 513, 1), api.ErrRange}, {region(0, 0, 1, math.MaxInt), api.ErrRange},
	{region(0, 0, 512, 512), api.ErrLarge}, {region(0, 0, 257, 256), api.ErrLarge}, {region(far, 0, 1, 1), api.ErrPlace}, {region(0, far-3, 1, 4), api.ErrPlace},
	{region(-far-1, 0, 1, 1), api.ErrPlace}, {region(0, math.MinInt, 1, 1), api.ErrPlace}, {region(math.MaxInt, 0, 1, 1), api.ErrPlace}, {region(far, 0, 0, 1), api.ErrRange}, {region(far, 0, 512, 129), api.ErrLarge},
}

// P175: the errors of Tiles, in their order.
func TestTilesErrors(t *testing.T) {
	for _, s := range badRegions {
		for _, side := range []int{1, 8, 0, 257} {
			l, e := tile.Tiles(s.r, side)
			wantNothing(t, "Tiles", len(l) > 0, e, s.want)
		}
	}
	for _, side := range badSides {
		for _, r := range []api.Region{region(0, 0, 4, 4), region(-far, 0, 256, 256)} {
			l, e := tile.Tiles(r, side)
			wantNothing(t, "Tiles", len(l) > 0, e, api.ErrRange)
		}
	}
}
