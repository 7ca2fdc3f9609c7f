package noise_test

import (
	"math"
	"testing"

	"tarnfell/api"
	"tarnfell/noise"
)

// badField is a field with what field.Check says of it.
type badField struct {
	f    api.Field
	want api.Errno
}

func badFields() []badField {
	var l []badField
	for _, s := range badRegions() {
		l = append(l, badField{api.Field{Region: s.r, V: []float32{nan}}, s.want})
	}
	r := region(0, 0, 2, 1)
	return append(l,
		badField{api.Field{Region: r}, api.ErrForm},
		badField{api.Field{Region: r, V: []float32{1, 2, 3}}, api.ErrForm},
		badField{api.Field{Region: r, V: []float32{api.MaxHeight + 1, nan}}, api.ErrForm},
		badField{api.Field{Region: r, V: []float32{-inf, 1}}, api.ErrForm},
		badField{api.Field{Region: r, V: []float32{1, api.MaxHeight + 1}}, api.ErrRange},
	)
}

// P32, G6: Dither rounds to multiples of step, up or down by chance.
func TestDither(t *testing.T) {
	n := &numbers{state: 14}
	for _, r := range []api.Region{region(-9, -8, 21, 17), region(api.MaxPlace-7, -api.MaxPlace, 7, 9)} {
		for _, step := range []float32{1, 0.25, 0.3, 7.7, 0x1p-10, 0x1p10, 1000.1} {
			for _, most := range []float32{tiny * 9, 1, 100, 1 << 19} {
				f, seed := n.field(r, most), n.next()
				f.V[0], f.V[1] = minusZero, 0
				g, e := noise.Dither(f, seed, step)
				wantCells(t, "Dither", g, e, r, func(x, y int) float32 { return dithered(valueAt(f, x, y), seed, x, y, step) })
			}
		}
	}
	f := api.Field{Region: region(0, 2, 6, 1), V: []float32{1, -1, 2.5, 1000.125, minusZero, 0.1}}
	want := []float32{1.2000000476837158, -1.2000000476837158, 2.700000047683716, 999.9000244140625, minusZero, 0}
	g, e := noise.Dither(f, 77, 0.3)
	wantCells(t, "Dither", g, e, f.Region, func(x, y int) float32 { return want[x] })
}

// P32: multiples of step stay as they are, zeros with their signs.
func TestDitherOfMultiples(t *testing.T) {
	for _, step := range []float32{0x1p-10, 0.5, 1, 3, 1000} {
		f := api.Field{Region: region(-1, -1, 3, 2), V: []float32{minusZero, 0, step, -step, 100 * step, -1000 * step}}
		for seed := range uint32(50) {
			g, e := noise.Dither(f, seed, step)
			wantCells(t, "Dither", g, e, f.Region, func(x, y int) float32 { return valueAt(f, x, y) })
		}
	}
}

// P32: a value is rounded up if the chance is less than its share, not if it is equal.
func TestDitherShare(t *testing.T) {
	for x := range 50 {
		chance := noise.Unit(noise.Hash(18, x, 5, 8))
		f := api.Field{Region: region(x, 5, 1, 1), V: []float32{chance}}
		g, e := noise.Dither(f, 18, 1)
		wantCells(t, "Dither", g, e, f.Region, func(int, int) float32 { return 0 })
		f.V[0] = after(chance)
		g, e = noise.Dither(f, 18, 1)
		wantCells(t, "Dither", g, e, f.Region, func(int, int) float32 { return 1 })
		// The share of a value just below 0 is rounded up to 1.
		f.V[0] = -tiny
		g, e = noise.Dither(f, 18, 1)
		wantCells(t, "Dither", g, e, f.Region, func(int, int) float32 { return 0 })
	}
}

// P32, G7: the errors of Dither, and their order; a multiple of step that is no height is one as well.
func TestDitherErrors(t *testing.T) {
	good := api.Field{Region: region(0, 0, 1, 1), V: []float32{1}}
	for _, s := range badFields() {
		for _, step := range []float32{1, 0, nan} {
			g, e := noise.Dither(s.f, 1, step)
			wantNoField(t, "Dither", g, e, s.want)
		}
	}
	for _, s := range append(badSingles(0x1p-10, 0x1p10), badSingle{0, api.ErrRange}, badSingle{minusZero, api.ErrRange}) {
		g, e := noise.Dither(good, 1, s.v)
		wantNoField(t, "Dither", g, e, s.want)
	}
	over, under := 0, 0
	for seed := range uint32(60) {
		g, e := noise.Dither(api.Field{Region: good.Region, V: []float32{api.MaxHeight}}, seed, 3)
		if e == api.ErrRange {
			wantNoField(t, "Dither", g, e, api.ErrRange)
			over++
		} else {
			wantCells(t, "Dither", g, e, good.Region, func(int, int) float32 { return api.MaxHeight - 1 })
			under++
		}
	}
	if over == 0 || under == 0 {
		t.Errorf("Dither at the greatest height: %d over, %d under", over, under)
	}
}

// P32: Speckle is 1 where the chance is less than share, otherwise 0.
func TestSpeckle(t *testing.T) {
	n := &numbers{state: 15}
	for _, share := range []float32{0, minusZero, tiny, 0.25, n.share(), before(1), 1} {
		for _, r := range []api.Region{region(-9, -8, 21, 17), region(-api.MaxPlace, api.MaxPlace-5, 4, 5)} {
			seed := n.next()
			g, e := noise.Speckle(r, seed, share)
			wantCells(t, "Speckle", g, e, r, func(x, y int) float32 {
				if unit(hash(seed, x, y, 9)) < share {
					return 1
				}
				return 0
			})
		}
	}
	for x := range 50 {
		r, chance := region(x, -3, 1, 1), noise.Unit(noise.Hash(19, x, -3, 9))
		g, e := noise.Speckle(r, 19, chance)
		wantCells(t, "Speckle", g, e, r, func(int, int) float32 { return 0 })
		g, e = noise.Speckle(r, 19, after(chance))
		wantCells(t, "Speckle", g, e, r, func(int, int) float32 { return 1 })
	}
}

// P32: the errors of Speckle, and their order.
func TestSpeckleErrors(t *testing.T) {
	for _, s := range badRegions() {
		for _, share := range []float32{0.5, 2, nan} {
			g, e := noise.Speckle(s.r, 1, share)
			wantNoField(t, "Speckle", g, e, s.want)
		}
	}
	for _, s := range badSingles(0, 1) {
		g, e := noise.Speckle(region(0, 0, 1, 1), 1, s.v)
		wantNoField(t, "Speckle", g, e, s.want)
	}
}

// P33: the numbers of a stream, from the state that the place gives, of any integers.
func TestStream(t *testing.T) {
	n := &numbers{state: 16}
	for range 200 {
		seed, x, y := n.next(), int(n.next())<<n.between(0, 31), -int(n.next())
		s, state := noise.NewStream(seed, x, y), hash(seed, x, y, 10)
		for range 20 {
			state = shaken(state)
			if v := s.Next(); v != state {
				t.Fatalf("Next of (%d, %d, %d): got %d, want %d", seed, x, y, v, state)
			}
		}
	}
}

// P33: a state of 0 becomes 1.
func TestStreamOfZero(t *testing.T) {
	for _, seed := range []uint32{984530294, 1132668923} {
		s := noise.NewStream(seed, 0, 0)
		for _, want := range []uint32{270369, 67634689, 2647435461, 307599695, 2398689233} {
			if v := s.Next(); v != want {
				t.Errorf("Next: got %d, want %d", v, want)
			}
		}
	}
}

// P33: Below and Unit are made of one Next each, exactly.
func TestStreamBelow(t *testing.T) {
	a, b := noise.NewStream(20, 1, 2), noise.NewStream(20, 1, 2)
	for n := 1; n < math.MaxInt32; n += 1 + n/9 {
		for _, most := range []int{n, math.MaxInt32} {
			v, e := a.Below(most)
			if want := int(b.Next()) * most / (1 << 32); e != api.OK || v != want {
				t.Errorf("Below(%d): got %d, error %d; want %d", most, v, e, want)
			}
		}
		if v, want := a.Unit(), unit(b.Next()); !sameBits(v, want) {
			t.Errorf("Unit: got %v, want %v", v, want)
		}
	}
}

// P33: with an error Next is not called.
func TestStreamErrors(t *testing.T) {
	a, b := noise.NewStream(22, 3, 4), noise.NewStream(22, 3, 4)
	for _, n := range []int{0, -1, 1 << 31, 1 << 32, 1<<32 + 1, math.MaxInt, math.MinInt} {
		if v, e := a.Below(n); v != 0 || e != api.ErrRange {
			t.Errorf("Below(%d): got %d, error %d", n, v, e)
		}
	}
	if v, want := a.Next(), b.Next(); v != want {
		t.Errorf("Next behind errors: got %d, want %d", v, want)
	}
}
