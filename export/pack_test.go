package export_test

import (
	"hash/adler32"
	"math"
	"slices"
	"strings"
	"testing"

	"tarnfell/api"
	"tarnfell/export"
)

// P235: Sum is that of package adler32.
func TestSum(t *testing.T) {
	n := &numbers{state: 20}
	for text, want := range map[string]int{"": 1, "\x00": 1<<16 + 1, "a": 98<<16 + 98, "abc": 0x024d0127, "Wikipedia": 0x11E60398} {
		wantInt(t, "Sum", export.Sum(text), api.OK, want)
	}
	for many := 1; many < 200000; many = many*2 + n.between(0, 5) {
		text := make([]byte, many)
		for _, fill := range []func() byte{func() byte { return byte(n.next()) }, func() byte { return 255 }, func() byte { return 0 }} {
			for i := range text {
				text[i] = fill()
			}
			wantInt(t, "Sum", export.Sum(string(text)), api.OK, int(adler32.Checksum(text)))
		}
	}
}

func wantPacked(t *testing.T, l []int, want string) {
	t.Helper()
	text, e := export.Pack(l)
	wantText(t, "Pack", text, e, want)
	back, e := export.Unpack(want)
	wantList(t, "Unpack", back, e, l...)
}

// P235: known numbers in both directions.
func TestKnownPacks(t *testing.T) {
	for text, l := range map[string][]int{
		"": nil, "\x00": {0}, "\x01": {-1}, "\x02": {1}, "\x7f": {-64}, "\x7e": {63}, "\x80\x01": {64}, "\x81\x01": {-65}, "\xff\x7f": {-8192}, "\x80\x80\x01": {8192},
		"\x80\x80\x80\x80\x80\x40": {1 << 40}, "\xff\xff\xff\xff\xff\x3f": {-1 << 40}, "\xfe\xff\xff\xff\xff\x3f": {1<<40 - 1}, "\x00\x00\x05": {0, 0, -3},
	} {
		wantPacked(t, l, text)
	}
	for _, limit := range []int{1 << 40, -1 << 40} {
		wantPacked(t, []int{limit}, packedOf([]int{limit}))
	}
}

// P235: numbers of all sizes are packed, and unpacked again.
func TestPacks(t *testing.T) {
	n := &numbers{state: 21}
	for range 3000 {
		var l []int
		for range n.between(0, 40) {
			l = append(l, (int(n.next())<<9+n.between(0, 511))>>n.between(1, 41)*pickOf(n, 1, -1))
		}
		wantPacked(t, l, packedOf(l))
	}
	many := slices.Repeat([]int{-77, 5000, 1 << 40, 0}, api.MaxCells/4)
	wantPacked(t, many, packedOf(many))
	zeros := make([]int, api.MaxCells)
	wantPacked(t, zeros, strings.Repeat("\x00", api.MaxCells))
}

// P235: the errors of Pack.
func TestPackErrors(t *testing.T) {
	for _, l := range [][]int{make([]int, api.MaxCells+1), append(make([]int, api.MaxCells), math.MaxInt)} {
		text, e := export.Pack(l)
		wantNothing(t, "Pack", text != "", e, api.ErrLarge)
	}
	for _, n := range outside(-1<<40, 1<<40) {
		for _, l := range [][]int{{n}, {1, 2, n}, {n, 3}} {
			text, e := export.Pack(l)
			wantNothing(t, "Pack", text != "", e, api.ErrRange)
		}
	}
}

// P235: the errors of Unpack, and their order.
func TestUnpackErrors(t *testing.T) {
	eight := strings.Repeat("\xff", 8)
	for _, c := range []struct {
		text string
		want api.Errno
	}{
		{"\x80", api.ErrForm}, {"\x80\x00", api.ErrForm}, {"\x81\x80\x00", api.ErrForm}, {"\x01\xff", api.ErrForm}, {"\x00\x80\x00\x00", api.ErrForm}, {"\xff\xff\x80", api.ErrForm},
		{eight + "\x7f", api.ErrRange}, {eight + "\x01", api.ErrRange}, {eight + "\x00", api.ErrForm}, {eight + "\xff", api.ErrForm}, {eight + "\xff\x01", api.ErrForm}, {eight + "\xff\x00", api.ErrForm}, {eight + "\xff\xff\x01", api.ErrForm},
		{packedOf([]int{1<<40 + 1}), api.ErrRange}, {packedOf([]int{-1<<40 - 1}), api.ErrRange}, {packedOf([]int{3, 1 << 60, 2}), api.ErrRange}, {packedOf([]int{1 << 60}) + "\x80", api.ErrForm},
		{strings.Repeat("\x05", api.MaxCells+1), api.ErrLarge}, {strings.Repeat("\x05", api.MaxCells) + eight + "\x01", api.ErrLarge}, {eight + "\x01" + strings.Repeat("\x05", api.MaxCells), api.ErrLarge},
		{strings.Repeat("\x05", api.MaxCells+1) + "\x80", api.ErrForm}, {strings.Repeat("\x05", api.MaxText), api.ErrLarge}, {strings.Repeat("\x05", api.MaxText-1) + "\x80", api.ErrForm},
		{strings.Repeat("\x05", api.MaxText+1), api.ErrLarge}, {strings.Repeat("\x80", api.MaxText+1), api.ErrLarge}, {strings.Repeat("\x80", api.MaxText), api.ErrForm},
	} {
		l, e := export.Unpack(c.text)
		if e != c.want || len(l) > 0 {
			t.Errorf("Unpack of %.20q (%d bytes): %d numbers, error %d; want %d", c.text, len(c.text), len(l), e, c.want)
		}
	}
	l, e := export.Unpack(strings.Repeat("\x05", api.MaxCells))
	wantList(t, "Unpack", l, e, slices.Repeat([]int{-3}, api.MaxCells)...)
}

// P235: what is read is just what is written of it.
func TestUnpackReadsPacks(t *testing.T) {
	n := &numbers{state: 22}
	right := 0
	for range 20000 {
		text := make([]byte, n.between(0, 5))
		for i := range text {
			text[i] = byte(pickOf(n, 0, 1, 0x7f, 0x80, 0x81, 0xff, int(n.next()%256)))
		}
		l, e := export.Unpack(string(text))
		if e != api.OK {
			wantNothing(t, "Unpack", len(l) > 0, e, api.ErrForm)
			continue
		}
		right++
		wantText(t, "Pack", packedOf(l), e, string(text))
	}
	if right < 3000 {
		t.Error("too few texts are right:", right)
	}
}
