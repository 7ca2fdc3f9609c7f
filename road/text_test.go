package road_test

import (
	"strings"
	"testing"

	"tarnfell/api"
	"tarnfell/road"
)

func wantText(t *testing.T, what, text string, e api.Errno, want string) {
	t.Helper()
	if e != api.OK || text != want {
		t.Errorf("%s: got %q, error %d; want %q", what, text, e, want)
	}
}

// P110: known ways, in both directions.
func TestPrintAndParse(t *testing.T) {
	for text, way := range map[string][]api.Point{
		"0 0":                places(0, 0),
		"-7 12":              places(-7, 12),
		"4194304 -4194304":   places(api.MaxPlace, -api.MaxPlace),
		"-4194304 4194304 7": places(-api.MaxPlace, api.MaxPlace, 1-api.MaxPlace, api.MaxPlace-1),
		"3 4 0 0x2 2 4x12":   places(3, 4, 4, 4, 6, 4, 6, 5, -6, 5),
		"0 0 0 1 2 3 4 5 6 7 0x2 1x3 2x4 3x5 4x6 5x7 6x8 7x9": winding(),
		"1 1 7x10 3x11 7": places(1, 1, 11, -9, 0, 2, 1, 1),
	} {
		l, e := road.Print(way)
		wantText(t, "Print", l, e, text)
		back, e := road.Parse(text)
		wantList(t, "Parse", back, e, way...)
	}
}

// P110: ways by chance are read as they are written.
func TestWaysAreReadBack(t *testing.T) {
	n := &numbers{state: 24}
	for range 300 {
		way := n.way(region(-50, -50, 100, 100), n.between(0, 60), 12)
		text, e := road.Print(way)
		wantText(t, "Print", text, e, printed(way))
		back, e := road.Parse(text)
		wantList(t, "Parse", back, e, way...)
	}
	text, e := road.Print(long(api.MaxCells))
	wantText(t, "Print", text, e, "0 0 0"+strings.Repeat(" 4 0", api.MaxCells/2-1))
	back, e := road.Parse(text)
	wantList(t, "Parse", back, e, long(api.MaxCells)...)
}

// P110: texts that are no ways.
func TestParseErrors(t *testing.T) {
	for _, text := range []string{
		"", " ", "0", "0 ", " 0", "0 0 ", " 0 0", "0  0", "0 0  1", "0 0 1 ", "0 0\n", "0\t0", "0 0 1\n", "0,0",
		"00 0", "0 00", "01 2", "-0 0", "0 -0", "+1 0", "0 +1", "- 0", "1e1 0", "1.0 0", "0x1 0", "a 0", "0 0 a", "99999999999999999999 0", "0 -99999999999999999999",
		"0 0 8", "0 0 -1", "0 0 10", "0 0 00", "0 0 01", "0 0 +1", "0 0 -0", "0 0 1.0",
		"0 0 0x0", "0 0 0x1", "0 0 0x13", "0 0 0x-2", "0 0 0x02", "0 0 0x+2", "0 0 0x", "0 0 x2", "0 0 8x2", "0 0 00x2", "0 0 0X2", "0 0 0x2x", "0 0 0x2x2", "0 0 0 x2", "0 0 0x 2", "0 0 0x99999999999999999999",
		// ErrSyntax comes ahead of the errors of ways.
		"4194305 0 8", "0 4194305 ", strings.Repeat("0 ", api.MaxCells+5), "9999999 0" + strings.Repeat(" 0", api.MaxCells) + " 9",
	} {
		l, e := road.Parse(text)
		wantNoList(t, "Parse", l, e, api.ErrSyntax)
	}
	for _, text := range []string{
		"4194305 0", "0 -4194305", "9223372036854775807 -9223372036854775808", "9223372036854775807 0 0 4", "-9223372036854775808 0 4x12",
		"4194304 0 0", "4194304 0 0 4", "4194293 0 0x12", "0 -4194304 6", "-4194304 0 3x2 0x2",
	} {
		l, e := road.Parse(text)
		wantNoList(t, "Parse", l, e, api.ErrPlace)
	}
	many := strings.Repeat(" 0 4", api.MaxCells/2)
	for text, want := range map[string]api.Errno{
		"0 0" + many: api.ErrLarge, "4194305 0" + many: api.ErrLarge, "0 0" + many[2:]: api.OK, "0 0 0" + many[4:]: api.OK,
		strings.Repeat("x", api.MaxText+1): api.ErrLarge, strings.Repeat("x", api.MaxText): api.ErrSyntax,
		"0 0" + strings.Repeat(" 0 4", api.MaxText): api.ErrLarge,
	} {
		l, e := road.Parse(text)
		if e != want || (e == api.OK) != (len(l) > 0) {
			t.Errorf("Parse of %d bytes: got %d places, error %d; want error %d", len(text), len(l), e, want)
		}
	}
}
