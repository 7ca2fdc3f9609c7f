package noise_test

import (
	"math"
	"testing"

	"tarnfell/api"
	"tarnfell/noise"
)

// P25: Hash, of known numbers, and of integers of any size.
func TestHash(t *testing.T) {
	for _, s := range []struct {
		seed    uint32
		x, y, n int
		want    uint32
	}{
		{0, 0, 0, 0, 0},
		{1, 0, 0, 0, 1461123477},
		{1, 2, 3, 4, 160645803},
		{7, -1, 5, 0, 1360520058},
		{math.MaxUint32, -api.MaxPlace, api.MaxPlace, 10, 337362970},
		{984530294, 0, 0, 10, 0},
		{1744005135, 0, 0, 10, math.MaxUint32},
	} {
		if h := noise.Hash(s.seed, s.x, s.y, s.n); h != s.want {
			t.Errorf("Hash(%d, %d, %d, %d) is %d, want %d", s.seed, s.x, s.y, s.n, h, s.want)
		}
	}
	n := &numbers{state: 1}
	for range 10000 {
		seed, x, y, z := n.next(), int(n.next())-1<<31, n.place(), n.between(-9, 9)
		if h := noise.Hash(seed, x, y, z); h != hash(seed, x, y, z) {
			t.Errorf("Hash(%d, %d, %d, %d) is %d", seed, x, y, z, h)
		}
	}
}

// P25: of an integer only the lowest 32 bits count.
func TestHashOfGreatIntegers(t *testing.T) {
	for _, n := range []int{1 << 32, -1 << 32, 1<<32 - 1, math.MaxInt, math.MinInt, math.MinInt + 5, 1<<62 + 77} {
		low := n & (1<<32 - 1)
		if noise.Hash(3, n, 0, 0) != noise.Hash(3, low, 0, 0) || noise.Hash(3, 0, n, 0) != noise.Hash(3, 0, low, 0) || noise.Hash(3, 0, 0, n) != noise.Hash(3, 0, 0, low) {
			t.Error("Hash", n)
		}
	}
}

// P25: Unit and Signed are exact, from the least to the greatest hash.
func TestUnitAndSigned(t *testing.T) {
	check := func(h uint32) {
		exact := float64(h/256) / (1 << 24)
		if u := noise.Unit(h); float64(u) != exact || u < 0 || u >= 1 {
			t.Errorf("Unit(%d) is %v", h, u)
		}
		if v := noise.Signed(h); float64(v) != 2*exact-1 || v < -1 || v >= 1 {
			t.Errorf("Signed(%d) is %v", h, v)
		}
	}
	n := &numbers{state: 2}
	for _, h := range []uint32{0, 1, 255, 256, 257, 1 << 31, 1<<31 - 1, math.MaxUint32, math.MaxUint32 - 255, math.MaxUint32 - 256} {
		check(h)
	}
	for range 10000 {
		check(n.next())
	}
	if !sameBits(noise.Unit(255), 0) || !sameBits(noise.Signed(1<<31), 0) || noise.Unit(256) != 0x1p-24 {
		t.Error("Unit, Signed")
	}
}

// P26, G6: Ease, with each operation rounded.
func TestEase(t *testing.T) {
	for _, s := range []struct{ t, want float32 }{
		{0, 0}, {minusZero, 0}, {1, 1}, {0.5, 0.5}, {0.25, 0.15625}, {0.75, 0.84375}, {tiny, 0},
	} {
		v, e := noise.Ease(s.t)
		wantSingle(t, "Ease", v, e, s.want)
	}
	n := &numbers{state: 3}
	for range 10000 {
		x := n.share()
		v, e := noise.Ease(x)
		wantSingle(t, "Ease", v, e, eased(x))
	}
}

// P26, G7: the errors of Ease.
func TestEaseErrors(t *testing.T) {
	for _, s := range badSingles(0, 1) {
		v, e := noise.Ease(s.v)
		wantNoSingle(t, "Ease", v, e, s.want)
	}
}
