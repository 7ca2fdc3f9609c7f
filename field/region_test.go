package field_test

import (
	"math"
	"testing"

	"tarnfell/api"
	"tarnfell/field"
)

// P1: the errors of CheckRegion, and their order.
func TestCheckRegion(t *testing.T) {
	const side, place = api.MaxSide, api.MaxPlace
	for _, s := range []struct {
		r    api.Region
		want api.Errno
	}{
		{region(0, 0, 1, 1), api.OK},
		{region(-7, 9, 31, 17), api.OK},
		{region(0, 0, side, 128), api.OK},
		{region(0, 0, 128, side), api.OK},
		{region(0, 0, 256, 256), api.OK},
		{region(0, 0, 0, 1), api.ErrRange},
		{region(0, 0, 1, 0), api.ErrRange},
		{region(0, 0, -1, 1), api.ErrRange},
		{region(0, 0, 1, -1), api.ErrRange},
		{region(0, 0, side+1, 1), api.ErrRange},
		{region(0, 0, 1, side+1), api.ErrRange},
		{region(0, 0, math.MaxInt, math.MaxInt), api.ErrRange},
		{region(0, 0, math.MinInt, math.MinInt), api.ErrRange},
		{region(0, 0, side, 129), api.ErrLarge},
		{region(0, 0, 129, side), api.ErrLarge},
		{region(0, 0, 256, 257), api.ErrLarge},
		{region(0, 0, side, side), api.ErrLarge},
		{region(-place, -place, 1, 1), api.OK},
		{region(place-3, place-2, 3, 2), api.OK},
		{region(-place-1, 0, 5, 5), api.ErrPlace},
		{region(0, -place-1, 5, 5), api.ErrPlace},
		{region(place-2, 0, 3, 1), api.ErrPlace},
		{region(0, place-1, 3, 2), api.ErrPlace},
		{region(math.MaxInt, 0, 1, 1), api.ErrPlace},
		{region(0, math.MaxInt, 1, 1), api.ErrPlace},
		{region(math.MaxInt-3, math.MaxInt-3, 5, 5), api.ErrPlace},
		{region(math.MinInt, 0, 1, 1), api.ErrPlace},
		{region(0, math.MinInt, 1, 1), api.ErrPlace},
		{region(place, place, 0, side), api.ErrRange},
		{region(place, place, side, side), api.ErrLarge},
		{region(place, 0, side+1, side), api.ErrRange},
	} {
		if e := field.CheckRegion(s.r); e != s.want {
			t.Errorf("CheckRegion(%v): got %d, want %d", s.r, e, s.want)
		}
	}
}

// covers tells of small regions cell by cell what Inside and Common say.
func covers(r api.Region, x, y int) bool {
	return x >= r.X && x < r.X+r.W && y >= r.Y && y < r.Y+r.H
}

// P1: Inside and Common say of all small regions what their cells say.
func TestInsideAndCommon(t *testing.T) {
	b := region(-1, 2, 3, 2)
	for x := -5; x < 4; x++ {
		for y := -2; y < 6; y++ {
			for w := 1; w < 6; w++ {
				for h := 1; h < 5; h++ {
					a := region(x, y, w, h)
					checkPair(t, a, b)
					checkPair(t, b, a)
				}
			}
		}
	}
}

func checkPair(t *testing.T, a, b api.Region) {
	t.Helper()
	all, many := true, 0
	first, last := api.Point{}, api.Point{}
	for y := a.Y; y < a.Y+a.H; y++ {
		for x := a.X; x < a.X+a.W; x++ {
			if !covers(b, x, y) {
				all = false
				continue
			}
			if many == 0 {
				first = api.Point{X: x, Y: y}
			}
			last = api.Point{X: x, Y: y}
			many++
		}
	}
	if field.Inside(a, b) != all {
		t.Errorf("Inside(%v, %v) is %v", a, b, !all)
	}
	want := api.Region{}
	if many > 0 {
		want = region(first.X, first.Y, last.X-first.X+1, last.Y-first.Y+1)
	}
	if r, ok := field.Common(a, b); r != want || ok != (many > 0) {
		t.Errorf("Common(%v, %v): got %v %v, want %v", a, b, r, ok, want)
	}
}

// P1: Inside and Common need no regions of fields: sides and places go up to 2^30.
func TestInsideAndCommonOfGreatRegions(t *testing.T) {
	const far = 1 << 30
	all, some := region(-far, -far, far, far), region(-2, -3, far, far)
	if r, ok := field.Common(all, some); !ok || r != region(-2, -3, 2, 3) {
		t.Error("Common", r, ok)
	}
	if r, ok := field.Common(all, region(0, -3, far, far)); ok || r != (api.Region{}) {
		t.Error("Common of neighbours", r, ok)
	}
	if r, ok := field.Common(region(far, far, far, far), region(far, far, far, far)); !ok || r != region(far, far, far, far) {
		t.Error("Common of one region", r, ok)
	}
	if !field.Inside(all, all) || field.Inside(all, some) || !field.Inside(region(-far, -1, far, 1), all) {
		t.Error("Inside")
	}
}

// P1: Grow makes regions larger and smaller.
func TestGrow(t *testing.T) {
	for _, s := range []struct {
		r    api.Region
		n    int
		want api.Region
	}{
		{region(3, -4, 5, 6), 0, region(3, -4, 5, 6)},
		{region(3, -4, 5, 6), 1, region(2, -5, 7, 8)},
		{region(3, -4, 5, 6), 10, region(-7, -14, 25, 26)},
		{region(3, -4, 5, 6), -2, region(5, -2, 1, 2)},
		{region(0, 0, 2, 2), 127, region(-127, -127, 256, 256)},
		{region(3-api.MaxPlace, 3-api.MaxPlace, 2, 2), 3, region(-api.MaxPlace, -api.MaxPlace, 8, 8)},
		{region(api.MaxPlace-5, api.MaxPlace-5, 2, 2), 3, region(api.MaxPlace-8, api.MaxPlace-8, 8, 8)},
	} {
		if r, e := field.Grow(s.r, s.n); e != api.OK || r != s.want {
			t.Errorf("Grow(%v, %d): got %v, error %d", s.r, s.n, r, e)
		}
	}
}

// P1: the errors of Grow, and their order.
func TestGrowErrors(t *testing.T) {
	for _, s := range []struct {
		r    api.Region
		n    int
		want api.Errno
	}{
		{region(0, 0, 0, 1), 1, api.ErrRange},
		{region(0, 0, 512, 512), math.MaxInt, api.ErrLarge},
		{region(api.MaxPlace, 0, 1, 1), api.MaxSide + 1, api.ErrPlace},
		{region(api.MaxPlace, 0, 4, 4), -1, api.ErrPlace},
		{region(0, 0, 1, 1), api.MaxSide, api.ErrRange},
		{region(0, 0, 1, 1), api.MaxSide + 1, api.ErrRange},
		{region(0, 0, 1, 1), -api.MaxSide - 1, api.ErrRange},
		{region(0, 0, 1, 1), math.MaxInt, api.ErrRange},
		{region(0, 0, 1, 1), math.MinInt, api.ErrRange},
		// Twice this number is 2 modulo 2^64: it must not pass for 1.
		{region(0, 0, 1, 1), math.MinInt + 1, api.ErrRange},
		{region(0, 0, 4, 5), -2, api.ErrRange},
		{region(0, 0, 5, 4), -2, api.ErrRange},
		{region(0, 0, 2, 2), 128, api.ErrLarge},
		{region(0, 0, 2, 2), 255, api.ErrLarge},
		{region(0, 0, 2, 2), 256, api.ErrRange},
		{region(2-api.MaxPlace, 0, 2, 2), 3, api.ErrPlace},
		{region(0, api.MaxPlace-4, 2, 2), 3, api.ErrPlace},
	} {
		if r, e := field.Grow(s.r, s.n); e != s.want || r != (api.Region{}) {
			t.Errorf("Grow(%v, %d): got %v, error %d; want error %d", s.r, s.n, r, e, s.want)
		}
	}
}
