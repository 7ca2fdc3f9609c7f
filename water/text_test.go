package water_test

import (
	"math"
	"slices"
	"strings"
	"testing"

	"tarnfell/api"
	"tarnfell/water"
)

func wantText(t *testing.T, what, text string, e api.Errno, want string) {
	t.Helper()
	if e != api.OK || text != want {
		t.Errorf("%s: got %q, error %d; want %q", what, text, e, want)
	}
}

func wantNoText(t *testing.T, what, text string, e, want api.Errno) {
	t.Helper()
	if e != want || text != "" {
		t.Errorf("%s: got %d bytes, error %d; want error %d", what, len(text), e, want)
	}
}

// ring is a river around a place, with all directions.
func ring() api.River {
	return api.River{
		Points: []api.Point{at(-1, 0), at(0, 0), at(1, 1), at(1, 2), at(0, 3), at(-1, 3), at(-2, 2), at(-2, 1), at(-1, 0)},
		Amount: 1 << 40, Order: 100, Into: 1,
	}
}

func pond() api.River {
	return api.River{Points: []api.Point{at(api.MaxPlace, -api.MaxPlace)}, Order: 1, Into: -1}
}

const known = "river 1099511627776 100 1 -1 0 01234567\nriver 0 1 -1 4194304 -4194304 -\n"

// P78: known rivers.
func TestPrintRivers(t *testing.T) {
	text, e := water.PrintRivers(nil)
	wantText(t, "PrintRivers", text, e, "")
	text, e = water.PrintRivers([]api.River{ring(), pond()})
	wantText(t, "PrintRivers", text, e, known)
	// A river may lead to itself, and over a cell several times.
	loop := api.River{Points: []api.Point{at(0, 0), at(1, 0), at(0, 0), at(1, 0)}, Amount: 7, Order: 12, Into: 0}
	text, e = water.PrintRivers([]api.River{loop})
	wantText(t, "PrintRivers", text, e, "river 7 12 0 0 0 040\n")
}

// badRiver is a river, among two, with what is wrong with it.
type badRiver struct {
	v    api.River
	want api.Errno
}

func badRivers() []badRiver {
	two := []api.Point{at(0, 0), at(1, 1)}
	far := []api.Point{at(0, 0), at(2, 0)}
	var l []badRiver
	for _, n := range outside(0, 1<<40) {
		l = append(l, badRiver{api.River{Points: two, Amount: n, Order: 1}, api.ErrRange})
	}
	for _, n := range outside(1, 100) {
		l = append(l, badRiver{api.River{Points: two, Order: n}, api.ErrRange})
	}
	for _, n := range outside(-1, 1) {
		l = append(l, badRiver{api.River{Points: two, Order: 1, Into: n}, api.ErrNone})
	}
	for _, n := range outside(-api.MaxPlace, api.MaxPlace) {
		for _, p := range []api.Point{at(n, 0), at(0, n), at(n, n)} {
			l = append(l, badRiver{api.River{Points: []api.Point{p}, Order: 1}, api.ErrPlace}, badRiver{api.River{Points: []api.Point{at(0, 0), p}, Order: 1}, api.ErrPlace})
		}
	}
	for _, p := range []api.Point{at(0, 0), at(2, 0), at(0, -2), at(2, 1), at(-2, -2), at(-1, 2), at(api.MaxPlace, -api.MaxPlace)} {
		l = append(l, badRiver{api.River{Points: []api.Point{at(0, 0), p}, Order: 1}, api.ErrForm}, badRiver{api.River{Points: []api.Point{at(-1, 0), at(0, 0), p, at(p.X-1, p.Y)}, Order: 1}, api.ErrForm})
	}
	// Of several errors the one that is mentioned first.
	return append(l,
		badRiver{api.River{}, api.ErrEmpty}, badRiver{api.River{Order: 1}, api.ErrEmpty}, badRiver{api.River{Amount: -1, Order: 101, Into: 9}, api.ErrEmpty},
		badRiver{api.River{Points: far, Amount: -1, Order: 1, Into: 2}, api.ErrRange}, badRiver{api.River{Points: far, Order: 0, Into: 2}, api.ErrRange},
		badRiver{api.River{Points: far, Order: 1, Into: 2}, api.ErrNone}, badRiver{api.River{Points: []api.Point{at(1<<40, 0)}, Order: 1, Into: -2}, api.ErrNone},
		badRiver{api.River{Points: far, Order: 1}, api.ErrForm}, badRiver{api.River{Points: append(far, at(1<<40, 0)), Order: 1}, api.ErrPlace},
		badRiver{api.River{Points: []api.Point{at(math.MaxInt, 0), at(math.MinInt, 0)}, Order: 1}, api.ErrPlace},
		badRiver{api.River{Points: []api.Point{at(api.MaxPlace, 0), at(api.MaxPlace+1, 0)}, Order: 1}, api.ErrPlace},
	)
}

// P78: the errors of rivers, in their order; the first bad river decides.
func TestPrintRiversErrors(t *testing.T) {
	good := ring()
	for _, s := range badRivers() {
		text, e := water.PrintRivers([]api.River{good, s.v})
		wantNoText(t, "PrintRivers", text, e, s.want)
		text, e = water.PrintRivers([]api.River{s.v, good})
		wantNoText(t, "PrintRivers", text, e, s.want)
		text, e = water.PrintRivers([]api.River{s.v, {}})
		wantNoText(t, "PrintRivers", text, e, s.want)
	}
	many := slices.Repeat([]api.River{pond()}, api.MaxCells)
	text, e := water.PrintRivers(many)
	wantText(t, "PrintRivers", text, e, strings.Repeat("river 0 1 -1 4194304 -4194304 -\n", api.MaxCells))
	text, e = water.PrintRivers(append(many, pond()))
	wantNoText(t, "PrintRivers", text, e, api.ErrLarge)
	text, e = water.PrintRivers(make([]api.River, api.MaxCells+1))
	wantNoText(t, "PrintRivers", text, e, api.ErrLarge)
}

// zigzag has a river with so many points beside its first one.
func zigzag(many int) api.River {
	v := api.River{Order: 1, Into: -1, Points: make([]api.Point, many+1)}
	for i := range v.Points {
		v.Points[i].X = i % 2
	}
	return v
}

// P78: texts of just MaxText bytes, and of one more; a long text is the last error.
func TestLongTextsOfRivers(t *testing.T) {
	head := "river 0 1 -1 0 0 "
	v := zigzag(api.MaxText - len(head) - 1)
	text, e := water.PrintRivers([]api.River{v})
	if e != api.OK || len(text) != api.MaxText || !strings.HasPrefix(text, head+"0404") {
		t.Error("PrintRivers", len(text), e)
	}
	l, line, e := water.ParseRivers(text)
	if e != api.OK || line != 0 || !sameRivers(l, []api.River{v}) {
		t.Error("ParseRivers", len(l), line, e)
	}
	l, line, e = water.ParseRivers(text + "x")
	if len(l) != 0 || line != 0 || e != api.ErrLarge {
		t.Error("ParseRivers", len(l), line, e)
	}
	v = zigzag(api.MaxText - len(head))
	text, e = water.PrintRivers([]api.River{v})
	wantNoText(t, "PrintRivers", text, e, api.ErrLarge)
	text, e = water.PrintRivers([]api.River{zigzag(1), v, pond()})
	wantNoText(t, "PrintRivers", text, e, api.ErrLarge)
	text, e = water.PrintRivers([]api.River{v, {}})
	wantNoText(t, "PrintRivers", text, e, api.ErrEmpty)
	text, e = water.PrintRivers([]api.River{v, {Order: 1, Points: []api.Point{at(0, 0), at(0, 0)}}})
	wantNoText(t, "PrintRivers", text, e, api.ErrForm)
}

// P78: known texts.
func TestParseRivers(t *testing.T) {
	l, line, e := water.ParseRivers(known)
	wantRivers(t, "ParseRivers", l, e, []api.River{ring(), pond()})
	wantError(t, "the line of no error", api.Errno(line), 0)
	l, line, e = water.ParseRivers("")
	wantRivers(t, "ParseRivers", l, e, nil)
	wantError(t, "the line of no error", api.Errno(line), 0)
}

// P78: what has not the form, and in which line.
func TestParseRiversSyntax(t *testing.T) {
	for _, bad := range []string{
		"", " ", "river", "river ", "river 1", "river 1 1 -1 0 0", "river 1 1 -1 0 0 ", "river 1 1 -1 0 0  0", "river 1 1 -1 0 0 0 ", "river 1 1 -1 0 0 - -", "river  1 1 -1 0 0 0", " river 1 1 -1 0 0 0",
		"River 1 1 -1 0 0 0", "rivers 1 1 -1 0 0 0", "1 1 -1 0 0 0", "river 1 1 -1 0 0 0\r", "river\t1 1 -1 0 0 0", "river 1 1 -1 0 0 8", "river 1 1 -1 0 0 09", "river 1 1 -1 0 0 0-", "river 1 1 -1 0 0 -0", "river 1 1 -1 0 0 --", "river 1 1 -1 0 0 a", "river 1 1 -1 0 0 0/", "river 1 1 -1 0 0 0\x00",
		"river 01 1 -1 0 0 0", "river 1 +1 -1 0 0 0", "river 1 1 -01 0 0 0", "river 1 1 -1 -0 0 0", "river 1 1 -1 0 00 0", "river 1 1 - 0 0 0", "river 1 1 -1  0 0", "river x 1 -1 0 0 0", "river 1 1.0 -1 0 0 0", "river 1 1e0 -1 0 0 0", "river 1_0 1 -1 0 0 0", "river 0x1 1 -1 0 0 0",
		"river 9223372036854775808 1 -1 0 0 0", "river 1 1 -1 0 -9223372036854775809 0", "river 1 1 -1 0 0 0 river 1 1 -1 0 0 0",
	} {
		for before, lines := range []string{"", "river 1 1 -1 0 0 0\n", "river 1 0 -1 0 0 0\nriver 1 1 9 0 0 -\n"} {
			for _, behind := range []string{"\n", "\nriver 1 1 -1 0 0 0\n", "\nx\n"} {
				l, line, e := water.ParseRivers(lines + bad + behind)
				if len(l) != 0 || line != before || e != api.ErrSyntax {
					t.Errorf("ParseRivers of %q: got %v, line %d, error %d", lines+bad+behind, l, line, e)
				}
			}
		}
	}
	// The last line ends with a line feed, too.
	for many := range 3 {
		text := strings.Repeat("river 1 1 -1 0 0 0\n", many) + "river 1 1 -1 0 0 0"
		l, line, e := water.ParseRivers(text)
		if len(l) != 0 || line != many || e != api.ErrSyntax {
			t.Errorf("ParseRivers of %q: got %v, line %d, error %d", text, l, line, e)
		}
	}
}

// P78: behind the form the errors of rivers, without a line.
func TestParseRiversErrors(t *testing.T) {
	for _, s := range []struct {
		text string
		want api.Errno
	}{
		{"river -1 1 -1 0 0 0\n", api.ErrRange}, {"river 1099511627777 1 -1 0 0 0\n", api.ErrRange}, {"river 1 0 -1 0 0 0\n", api.ErrRange}, {"river 1 101 -1 0 0 0\n", api.ErrRange}, {"river 1 -9223372036854775808 -1 0 0 0\n", api.ErrRange},
		{"river 1 1 -2 0 0 0\n", api.ErrNone}, {"river 1 1 1 0 0 0\n", api.ErrNone}, {"river 1 1 9223372036854775807 0 0 0\n", api.ErrNone},
		{"river 1 1 -1 4194304 0 0\n", api.ErrPlace}, {"river 1 1 -1 0 -4194304 6\n", api.ErrPlace}, {"river 1 1 -1 4194305 0 4\n", api.ErrPlace}, {"river 1 1 -1 9223372036854775807 -9223372036854775808 007\n", api.ErrPlace},
		{"river 1 1 -1 4194305 0 -\nriver 1 0 -1 0 0 -\n", api.ErrPlace}, {"river 1 1 2 0 0 -\nriver 1 0 -1 0 0 -\n", api.ErrNone},
	} {
		l, line, e := water.ParseRivers(s.text)
		if len(l) != 0 || line != 0 || e != s.want {
			t.Errorf("ParseRivers of %q: got %v, line %d, error %d; want %d", s.text, l, line, e, s.want)
		}
	}
	many := strings.Repeat("river 1 0 -1 0 0 -\n", api.MaxCells+1)
	l, line, e := water.ParseRivers(many)
	if len(l) != 0 || line != 0 || e != api.ErrLarge {
		t.Error("ParseRivers", len(l), line, e)
	}
	l, line, e = water.ParseRivers(many + "x")
	if len(l) != 0 || line != api.MaxCells+1 || e != api.ErrSyntax {
		t.Error("ParseRivers", len(l), line, e)
	}
	l, line, e = water.ParseRivers(strings.Repeat("\n", api.MaxText))
	if len(l) != 0 || line != 0 || e != api.ErrSyntax {
		t.Error("ParseRivers", len(l), line, e)
	}
	l, line, e = water.ParseRivers(strings.Repeat("\n", api.MaxText+1))
	if len(l) != 0 || line != 0 || e != api.ErrLarge {
		t.Error("ParseRivers", len(l), line, e)
	}
}
