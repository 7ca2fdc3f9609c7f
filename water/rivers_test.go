package water_test

import (
	"slices"
	"testing"

	"tarnfell/api"
	"tarnfell/water"
)

func wantRivers(t *testing.T, what string, l []api.River, e api.Errno, want []api.River) {
	t.Helper()
	if e != api.OK || !sameRivers(l, want) {
		t.Errorf("%s: got %v, error %d; want %v", what, l, e, want)
	}
}

// P77: rivers of all directions, amounts and limits, against asking of each cell what leads to it. They are printed and read back (P78).
func TestRivers(t *testing.T) {
	n := &numbers{state: 18}
	for range 30 {
		for _, r := range regions() {
			dirs := n.downhill(r)
			amounts := gathered(r, dirs, n.list(r.W*r.H, func() int { return n.between(0, 3) }))
			for _, least := range []int{1, 2, 3, 5, 1 << 40} {
				want := riversOf(r, dirs, amounts, least)
				l, e := water.Rivers(r, dirs, amounts, least)
				wantRivers(t, "Rivers", l, e, want)
				text, e := water.PrintRivers(l)
				wantError(t, "PrintRivers of Rivers", e, api.OK)
				l, line, e := water.ParseRivers(text)
				wantRivers(t, "ParseRivers of PrintRivers", l, e, want)
				wantError(t, "the line of no error", api.Errno(line), 0)
			}
		}
	}
}

// tree has directions in which four sources meet in pairs, and then all.
func tree() (api.Region, []int, []int) {
	r := region(-3, 10, 7, 4)
	dirs := []int{
		1, -1, 3, -1, 1, -1, 3,
		-1, 2, -1, -1, -1, 2, -1,
		-1, 1, -1, -1, -1, 3, -1,
		-1, -1, 0, -1, 4, -1, -1,
	}
	amounts := gathered(r, dirs, slices.Repeat([]int{1}, 28))
	return r, dirs, amounts
}

// P77: two pairs of rivers of the order 1 make two of the order 2, and these end at a cell with -1, where no further river begins.
func TestRiversOfATree(t *testing.T) {
	r, dirs, amounts := tree()
	l, e := water.Rivers(r, dirs, amounts, 1)
	var joined []api.River
	for _, v := range l {
		if len(v.Points) > 1 {
			joined = append(joined, v)
		}
	}
	numbers := make(map[api.Point]int)
	for i, v := range l {
		numbers[v.Points[0]] = i
	}
	west, east := numbers[at(-2, 11)], numbers[at(2, 11)]
	wantRivers(t, "Rivers", joined, e, []api.River{
		{Points: []api.Point{at(-3, 10), at(-2, 11)}, Amount: 1, Order: 1, Into: west},
		{Points: []api.Point{at(-1, 10), at(-2, 11)}, Amount: 1, Order: 1, Into: west},
		{Points: []api.Point{at(1, 10), at(2, 11)}, Amount: 1, Order: 1, Into: east},
		{Points: []api.Point{at(3, 10), at(2, 11)}, Amount: 1, Order: 1, Into: east},
		{Points: []api.Point{at(-2, 11), at(-2, 12), at(-1, 13), at(0, 13)}, Amount: 5, Order: 2, Into: -1},
		{Points: []api.Point{at(2, 11), at(2, 12), at(1, 13), at(0, 13)}, Amount: 5, Order: 2, Into: -1},
	})
}

// P77: known rivers: in one line, with a limit, with a river that joins one of a higher order, and with three that meet.
func TestKnownRivers(t *testing.T) {
	line := region(0, 0, 4, 1)
	l, e := water.Rivers(line, []int{0, 0, 0, -1}, []int{1, 2, 3, 4}, 1)
	wantRivers(t, "Rivers", l, e, []api.River{{Points: []api.Point{at(0, 0), at(1, 0), at(2, 0), at(3, 0)}, Amount: 3, Order: 1, Into: -1}})
	l, e = water.Rivers(line, []int{0, 0, 0, -1}, []int{1, 2, 3, 4}, 3)
	wantRivers(t, "Rivers", l, e, []api.River{{Points: []api.Point{at(2, 0), at(3, 0)}, Amount: 3, Order: 1, Into: -1}})
	l, e = water.Rivers(line, []int{0, 0, 0, -1}, []int{1, 2, 3, 4}, 4)
	wantRivers(t, "Rivers", l, e, []api.River{{Points: []api.Point{at(3, 0)}, Amount: 4, Order: 1, Into: -1}})
	l, e = water.Rivers(line, []int{0, 0, 0, -1}, []int{1, 2, 3, 4}, 5)
	wantRivers(t, "Rivers", l, e, nil)
	l, e = water.Rivers(line, []int{0, -1, 4, 4}, []int{1, 4, 2, 1}, 1)
	wantRivers(t, "Rivers", l, e, []api.River{
		{Points: []api.Point{at(0, 0), at(1, 0)}, Amount: 1, Order: 1, Into: -1},
		{Points: []api.Point{at(3, 0), at(2, 0), at(1, 0)}, Amount: 2, Order: 1, Into: -1},
	})
	// A river of the order 2 stays so where one of the order 1 joins it.
	r := region(0, 0, 4, 3)
	dirs := []int{1, -1, -1, -1, 0, 0, 0, -1, 7, 7, -1, -1}
	amounts := []int{1, 0, 0, 0, 1, 4, 6, 7, 1, 1, 0, 0}
	l, e = water.Rivers(r, dirs, amounts, 1)
	wantRivers(t, "Rivers", l, e, []api.River{
		{Points: []api.Point{at(0, 0), at(1, 1)}, Amount: 1, Order: 1, Into: 2},
		{Points: []api.Point{at(0, 1), at(1, 1)}, Amount: 1, Order: 1, Into: 2},
		{Points: []api.Point{at(1, 1), at(2, 1)}, Amount: 4, Order: 2, Into: 3},
		{Points: []api.Point{at(2, 1), at(3, 1)}, Amount: 6, Order: 2, Into: -1},
		{Points: []api.Point{at(0, 2), at(1, 1)}, Amount: 1, Order: 1, Into: 2},
		{Points: []api.Point{at(1, 2), at(2, 1)}, Amount: 1, Order: 1, Into: 3},
	})
	l, e = water.Rivers(r, dirs, amounts, 2)
	wantRivers(t, "Rivers", l, e, []api.River{{Points: []api.Point{at(1, 1), at(2, 1), at(3, 1)}, Amount: 6, Order: 1, Into: -1}})
}

// P77: the errors, in their order.
func TestRiversErrors(t *testing.T) {
	r := region(1, 1, 2, 2)
	dirs := []int{0, 2, -1, 4}
	amounts := []int{1, 2, 4, 3}
	for _, least := range append(outside(1, 1<<40), -1) {
		l, e := water.Rivers(r, dirs, amounts, least)
		wantNoList(t, "Rivers", l, e, api.ErrRange)
		// ErrRange comes ahead of ErrOrder, which is asked of all cells.
		l, e = water.Rivers(r, dirs, []int{4, 3, 2, 1}, least)
		wantNoList(t, "Rivers", l, e, api.ErrRange)
	}
	for _, bad := range outside(0, 1<<40) {
		for i := range 4 {
			l := []int{9, 7, 0, 1 << 40}
			l[i] = bad
			rivers, e := water.Rivers(r, dirs, l, 1)
			wantNoList(t, "Rivers", rivers, e, api.ErrRange)
		}
	}
	for _, s := range [][]int{{3, 2, 4, 4}, {1, 2, 2, 3}, {1, 2, 4, 1}, {1, 0, 0, 0}, {1 << 40, 0, 0, 0}} {
		l, e := water.Rivers(r, dirs, s, 1<<40)
		wantNoList(t, "Rivers", l, e, api.ErrOrder)
	}
	for _, s := range [][]int{nil, {1, 2, 3}, {1, 2, 3, 4, 5}, {-1}} {
		l, e := water.Rivers(r, dirs, s, 0)
		wantNoList(t, "Rivers", l, e, api.ErrForm)
	}
	for _, s := range allBadDirs() {
		for _, amounts := range [][]int{nil, {-1, -1}, slices.Repeat([]int{-1}, 9)} {
			l, e := water.Rivers(s.r, s.dirs, amounts, 0)
			wantNoList(t, "Rivers", l, e, s.want)
		}
	}
	l, e := water.Rivers(r, dirs, []int{1 << 40, 1 << 40, 1 << 40, 1 << 40}, 1<<40)
	wantRivers(t, "Rivers", l, e, []api.River{{Points: []api.Point{at(1, 1), at(2, 1), at(2, 2), at(1, 2)}, Amount: 1 << 40, Order: 1, Into: -1}})
	l, e = water.Rivers(r, dirs, []int{0, 0, 0, 0}, 1)
	wantRivers(t, "Rivers", l, e, nil)
}

// P77: rivers of ground of the greatest size come to orders that show that they branch.
func TestRiversOfALargeField(t *testing.T) {
	n := &numbers{state: 19}
	f := n.field(region(0, 0, 256, 256), n.single)
	for range 3 {
		f, _ = water.Breach(f, 0.01)
	}
	dirs, _ := water.Drain(f)
	amounts, _ := water.Gather(f.Region, dirs, ones(f))
	l, e := water.Rivers(f.Region, dirs, amounts, 1)
	greatest := 0
	for _, v := range l {
		greatest = max(greatest, v.Order)
	}
	if e != api.OK || greatest < 4 || greatest > 17 {
		t.Error("Rivers", len(l), e, greatest)
	}
	text, e := water.PrintRivers(l)
	wantError(t, "PrintRivers", e, api.OK)
	again, _, e := water.ParseRivers(text)
	wantRivers(t, "ParseRivers", again, e, l)
}
