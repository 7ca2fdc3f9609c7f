package water_test

import (
	"math"
	"slices"
	"testing"

	"tarnfell/api"
	"tarnfell/noise"
	"tarnfell/water"
)

// P73: right directions: none, all eight, ways that meet, and ways that end anywhere.
func TestCheckDirs(t *testing.T) {
	for d, want := range []api.Errno{api.OK, api.OK, api.OK, api.OK, api.OK, api.OK, api.OK, api.OK, api.ErrRange} {
		wantError(t, "CheckDirs", water.CheckDirs(region(-5, 5, 3, 3), []int{-1, -1, -1, -1, d, -1, -1, -1, -1}), want)
	}
	wantError(t, "CheckDirs", water.CheckDirs(region(0, 0, 3, 3), []int{0, 0, 2, 6, -1, 2, 6, 4, 5}), api.OK)
	wantError(t, "CheckDirs", water.CheckDirs(region(0, 0, 3, 3), []int{1, 2, 3, 0, -1, 4, 7, 6, 5}), api.OK)
	n := &numbers{state: 8}
	for range 50 {
		for _, r := range regions() {
			wantError(t, "CheckDirs", water.CheckDirs(r, n.downhill(r)), api.OK)
		}
	}
	for _, s := range allBadDirs() {
		wantError(t, "CheckDirs", water.CheckDirs(s.r, s.dirs), s.want)
	}
}

// P73: loops anywhere, against following each cell's way.
func TestCheckDirsFindsLoops(t *testing.T) {
	n := &numbers{state: 9}
	loops := 0
	for range 2000 {
		r := region(n.between(-9, 9), n.between(-9, 9), n.between(1, 4), n.between(1, 4))
		dirs := n.list(r.W*r.H, func() int { return n.between(-1, 7) })
		want := api.OK
		for i, d := range dirs {
			if d >= 0 && neighbour(r, i, d) < 0 {
				dirs[i] = -1
			}
		}
		for i := range dirs {
			if _, ends := follow(r, dirs, i); !ends {
				want = api.ErrLoop
				loops++
			}
		}
		wantError(t, "CheckDirs", water.CheckDirs(r, dirs), want)
	}
	if loops == 0 {
		t.Error("no loop was made")
	}
	long := slices.Repeat([]int{0}, 512)
	long[511] = -1
	wantError(t, "CheckDirs", water.CheckDirs(region(0, 0, 512, 1), long), api.OK)
	long[511] = 4
	wantError(t, "CheckDirs", water.CheckDirs(region(0, 0, 512, 1), long), api.ErrLoop)
}

// P73: the cell to which water goes.
func TestNext(t *testing.T) {
	n := &numbers{state: 10}
	for _, r := range regions() {
		dirs := n.downhill(r)
		for i, d := range dirs {
			p, some, e := water.Next(r, dirs, placeOf(r, i))
			want := api.Point{}
			if d >= 0 {
				want = placeOf(r, neighbour(r, i, d))
			}
			if e != api.OK || p != want || some != (d >= 0) {
				t.Error("Next", p, some, e, "want", want)
			}
		}
	}
}

// P73: the errors of Next, in their order.
func TestNextErrors(t *testing.T) {
	r := region(-2, 5, 3, 2)
	dirs := []int{0, 0, -1, 0, 0, 6}
	for _, p := range []api.Point{at(-3, 5), at(1, 5), at(0, 4), at(0, 7), at(-2+3, 6), {}, at(math.MaxInt, 5), at(-2, math.MinInt), at(-2+1<<40, 5)} {
		q, some, e := water.Next(r, dirs, p)
		if q != (api.Point{}) || some || e != api.ErrPlace {
			t.Error("Next", p, q, some, e)
		}
		for _, s := range allBadDirs() {
			q, some, e = water.Next(s.r, s.dirs, p)
			if q != (api.Point{}) || some || e != s.want {
				t.Error("Next", q, some, e, "want", s.want)
			}
		}
	}
}

// P74: each cell's rain passes all cells on its way; what passes the mouths is all rain.
func TestGather(t *testing.T) {
	n := &numbers{state: 11}
	for range 20 {
		for _, r := range regions() {
			dirs := n.downhill(r)
			for _, most := range []int{0, 3, 1 << 30} {
				rain := n.list(r.W*r.H, func() int { return n.between(0, most) })
				l, e := water.Gather(r, dirs, rain)
				wantList(t, "Gather", l, e, gathered(r, dirs, rain))
				wantAllRain(t, dirs, rain, l)
			}
		}
	}
}

func wantAllRain(t *testing.T, dirs, rain, amounts []int) {
	t.Helper()
	fallen, left := 0, 0
	for i, d := range dirs {
		fallen += rain[i]
		if d < 0 {
			left += amounts[i]
		}
	}
	if left != fallen {
		t.Errorf("Gather: of %d comes %d to the mouths", fallen, left)
	}
}

// P74: the most rain that there is, down one way.
func TestGatherOfMuchRain(t *testing.T) {
	r := region(0, 0, 256, 256)
	dirs := slices.Repeat([]int{0}, 1<<16)
	for y := range 256 {
		dirs[y*256+255] = 2
	}
	dirs[1<<16-1] = -1
	l, e := water.Gather(r, dirs, slices.Repeat([]int{1 << 30}, 1<<16))
	if e != api.OK || l[1<<16-1] != 1<<46 || l[255] != 1<<38 || l[0] != 1<<30 {
		t.Error("Gather", e)
	}
}

// P74: the errors, in their order.
func TestGatherErrors(t *testing.T) {
	r := region(1, 1, 2, 2)
	dirs := []int{0, 2, -1, 4}
	for _, rain := range [][]int{nil, {1, 1, 1}, {1, 1, 1, 1, 1}, {-1}, {-1, -1, -1, -1, -1}} {
		l, e := water.Gather(r, dirs, rain)
		wantNoList(t, "Gather", l, e, api.ErrForm)
	}
	for _, bad := range outside(0, 1<<30) {
		for i := range 4 {
			rain := []int{0, 1 << 30, 2, 3}
			rain[i] = bad
			l, e := water.Gather(r, dirs, rain)
			wantNoList(t, "Gather", l, e, api.ErrRange)
		}
	}
	for _, s := range allBadDirs() {
		for _, rain := range [][]int{nil, {1, 1}, {-1, -1}, slices.Repeat([]int{-1}, 9)} {
			l, e := water.Gather(s.r, s.dirs, rain)
			wantNoList(t, "Gather", l, e, s.want)
		}
	}
}

// P75: the mouths of all cells, and the lengths of the ways to them, added from the mouth on.
func TestBasinsAndFar(t *testing.T) {
	n := &numbers{state: 12}
	for range 20 {
		for _, r := range regions() {
			dirs := n.downhill(r)
			numbers, mouths, e := water.Basins(r, dirs)
			wantNumbers, wantMouths := basinsOf(r, dirs)
			wantList(t, "Basins", numbers, e, wantNumbers)
			wantList(t, "Basins", mouths, e, wantMouths)
			wantFar(t, r, dirs)
		}
	}
}

func wantFar(t *testing.T, r api.Region, dirs []int) {
	t.Helper()
	far, e := water.Far(r, dirs)
	if e != api.OK || len(far) != len(dirs) {
		t.Fatal("Far", far, e)
	}
	for i, v := range far {
		if !sameBits(v, farFrom(r, dirs, i)) {
			t.Errorf("Far: got %v, want %v", v, farFrom(r, dirs, i))
		}
	}
}

// P75: a long way, on which the order of the sums shows.
func TestFarOfALongWay(t *testing.T) {
	r := region(7, 7, 301, 2)
	dirs := make([]int, 602)
	n := &numbers{state: 13}
	for x := range 300 {
		dirs[x], dirs[301+x] = n.between(0, 1), 7*n.between(0, 1)
	}
	dirs[300], dirs[601] = -1, -1
	wantFar(t, r, dirs)
	far, e := water.Far(region(0, 0, 3, 1), []int{0, -1, 4})
	wantList(t, "Far", far, e, []float32{1, 0, 1})
	far, e = water.Far(region(0, 0, 2, 3), []int{1, 2, 7, -1, 0, 6})
	wantList(t, "Far", far, e, []float32{root2, 1, plus(root2, 1), 0, 2, 1})
}

// P75: the errors of both.
func TestBasinsAndFarErrors(t *testing.T) {
	for _, s := range allBadDirs() {
		numbers, mouths, e := water.Basins(s.r, s.dirs)
		wantNoList(t, "Basins", numbers, e, s.want)
		wantNoList(t, "Basins", mouths, e, s.want)
		far, e := water.Far(s.r, s.dirs)
		wantNoList(t, "Far", far, e, s.want)
	}
}

// P86: rain by place, and its errors, in their order.
func TestShower(t *testing.T) {
	for _, most := range []int{0, 1, 2, 9, 999, 1 << 20} {
		for _, r := range append(regions(), region(-api.MaxPlace, api.MaxPlace-128, 512, 128)) {
			for _, seed := range []uint32{0, 7, math.MaxUint32} {
				var want []int
				for i := range r.W * r.H {
					p := placeOf(r, i)
					want = append(want, int(noise.Hash(seed, p.X, p.Y, 2))%(most+1))
				}
				l, e := water.Shower(r, seed, most)
				wantList(t, "Shower", l, e, want)
			}
		}
	}
	for _, most := range outside(0, 1<<20) {
		l, e := water.Shower(region(0, 0, 2, 2), 1, most)
		wantNoList(t, "Shower", l, e, api.ErrRange)
		for _, s := range badRegions() {
			l, e = water.Shower(s.r, 1, most)
			wantNoList(t, "Shower", l, e, s.want)
		}
	}
}

// P87: Gather of Shower adds up to all rain, in the directions of Drain.
func TestGatherOfShower(t *testing.T) {
	n := &numbers{state: 14}
	for _, f := range n.fields(top) {
		rain, _ := water.Shower(f.Region, n.next(), 1<<20)
		dirs, _ := water.Drain(f)
		amounts, e := water.Gather(f.Region, dirs, rain)
		wantError(t, "Gather of Shower", e, api.OK)
		wantAllRain(t, dirs, rain, amounts)
	}
}
