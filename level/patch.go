package level

import (
	"tarnfell/api"
	"tarnfell/field"
	"tarnfell/tile"
)

// maxPatchLevels is how many levels a tile has at most: it is itself the first one of them, with the number 0.
const maxPatchLevels = 6

// Patches is described in doc/09-level.md, P211.
func Patches(f api.Field, side int, eye api.Eye) ([]api.Patch, api.Errno) {
	if e := field.Check(f); e != api.OK {
		return nil, e
	}
	if side != 8 && side != 16 && side != 32 && side != 64 {
		return nil, api.ErrRange
	}
	if e := field.CheckHeights(eye.X, eye.Y, eye.H, eye.Scale); e != api.OK {
		return nil, e
	}
	if eye.Scale < 0 {
		return nil, api.ErrRange
	}
	regions, wide := split(f.Region, side)
	patches := make([]api.Patch, len(regions))
	for i, r := range regions {
		part, _ := field.Make(r, func(x, y int) float32 { return valueAt(f, api.Point{X: x, Y: y}) })
		patches[i] = api.Patch{Region: r, Level: levelFor(part, eye)}
	}
	smooth(patches, wide)
	return patches, api.OK
}

// split gives the tiles of a region, and how many of them there are in a row. Those of tile.Tiles are the same, but may be too many for it.
func split(r api.Region, side int) (tiles []api.Region, wide int) {
	first, _ := tile.Tile(side, r.X, r.Y)
	for y := first.Y; y < r.Y+r.H; y += side {
		wide = 0
		for x := first.X; x < r.X+r.W; x += side {
			part, _ := field.Common(r, api.Region{X: x, Y: y, W: side, H: side})
			tiles = append(tiles, part)
			wide++
		}
	}
	return tiles, wide
}

// levelFor gives the last level of a tile that loses no more than what may be lost for an eye.
func levelFor(part api.Field, eye api.Eye) int {
	last, most := 0, float32(distance(part, eye)*eye.Scale)
	l, _ := levels(part, maxPatchLevels)
	for level, lost := range lossesOf(l) {
		if lost <= most {
			last = level
		}
	}
	return last
}

// distance is that of an eye from the middle of a tile.
func distance(part api.Field, eye api.Eye) float32 {
	low, high, _ := field.Range(part)
	dx := eye.X - halfway(part.X, part.W)
	dy := eye.Y - halfway(part.Y, part.H)
	dh := eye.H - float32((low+high)*0.5)
	return field.Root(float32(dx*dx) + float32(dy*dy) + float32(dh*dh))
}

func halfway(start, length int) float32 {
	return float32(start) + float32(float32(length)*0.5)
}

// smooth lowers levels until no two tiles that touch differ by more than 1. In whichever order this is done, each tile gets the same level.
func smooth(patches []api.Patch, wide int) {
	for changed := true; changed; {
		changed = false
		lower := func(i, k int) {
			if most := patches[k].Level + 1; patches[i].Level > most {
				patches[i].Level = most
				changed = true
			}
		}
		for i := range patches {
			if (i+1)%wide != 0 {
				lower(i, i+1)
				lower(i+1, i)
			}
			if i+wide < len(patches) {
				lower(i, i+wide)
				lower(i+wide, i)
			}
		}
	}
}
