package tile_test

import (
	"math"
	"slices"
	"strconv"
	"strings"
	"testing"

	"tarnfell/api"
	"tarnfell/tile"
)

// P181: the line of an edit, by hand and for all right edits, is read back.
func TestPrintEdit(t *testing.T) {
	for _, s := range []struct {
		e    api.Edit
		want string
	}{
		{raise(api.BrushFlat, 1, -2, 1, 1), "raise flat 1 -2 1 3f800000 00000000"},
		{level(api.BrushCone, -far, far, 256, -2.5), "level cone -4194304 4194304 256 00000000 c0200000"},
		{soften(api.BrushBell, 0, 0, 17), "soften bell 0 0 17 00000000 00000000"},
		{set(api.BrushFlat, 10, 20, 30, minusZero), "set flat 10 20 30 00000000 80000000"},
		{raise(api.BrushCone, -10, 0, 9, tiny), "raise cone -10 0 9 00000001 00000000"},
		{set(api.BrushBell, 7, 7, 7, top), "set bell 7 7 7 00000000 49800000"},
		{raise(api.BrushBell, 7, 7, 7, minusZero), "raise bell 7 7 7 80000000 00000000"},
	} {
		if text, e := tile.PrintEdit(s.e); text != s.want || e != api.OK {
			t.Errorf("PrintEdit of %v: %q, error %d; want %q", s.e, text, e, s.want)
		}
	}
	n := &numbers{state: 20}
	for _, e := range append(rightEdits(), n.edits(region(-9, -9, 20, 20), 3000, 256)...) {
		text, bad := tile.PrintEdit(e)
		if text != lineOf(e) || bad != api.OK {
			t.Errorf("PrintEdit of %v: %q, error %d; want %q", e, text, bad, lineOf(e))
		}
		if back, bad := tile.ParseEdit(text); !sameEdit(back, e) || bad != api.OK {
			t.Errorf("ParseEdit of %q: %v, error %d; want %v", text, back, bad, e)
		}
	}
	for _, s := range badEdits() {
		text, bad := tile.PrintEdit(s.e)
		wantNothing(t, "PrintEdit", text != "", bad, s.want)
	}
}

func wantNoEdit(t *testing.T, text string, want api.Errno) {
	t.Helper()
	e, bad := tile.ParseEdit(text)
	wantNothing(t, "ParseEdit of "+strconv.Quote(text), e != api.Edit{}, bad, want)
}

// P181: ParseEdit reads just the form of PrintEdit.
func TestParseEditSyntax(t *testing.T) {
	words := strings.Split("raise flat 1 -2 5 3f800000 00000000", " ")
	line := func(i int, word string) string {
		l := slices.Clone(words)
		l[i] = word
		return strings.Join(l, " ")
	}
	for i := range words {
		for _, word := range []string{"", " ", "\t", "x", words[i] + " ", " " + words[i], words[i] + "\n", "\x00", words[i] + "\x00", "#", words[i] + " x", "Raise", "FLAT", "raised", "rais", "1.0", "+1", "-0", "00", "01", "-02", "1e0", "0x1", "1_0", "--1", "9223372036854775808", "-9223372036854775809"} {
			wantNoEdit(t, line(i, word), api.ErrSyntax)
		}
		wantNoEdit(t, strings.Join(slices.Delete(slices.Clone(words), i, i+1), " "), api.ErrSyntax)
		wantNoEdit(t, strings.Join(slices.Insert(slices.Clone(words), i, words[i]), " "), api.ErrSyntax)
		for k := range words {
			if i != k && (i < 2 || k < 2 || i > 4 != (k > 4)) {
				wantNoEdit(t, line(i, words[k]), api.ErrSyntax)
			}
		}
	}
	for _, word := range []string{"3f80000", "3f8000000", "3F800000", "0x3f8000", "+3f80000", "-3f80000", "3f80000g", "3f8_0000", "1", "g", "٣f800000", "003f800000"} {
		wantNoEdit(t, line(5, word), api.ErrSyntax)
		wantNoEdit(t, line(6, word), api.ErrSyntax)
	}
	for _, text := range []string{"", " ", "undo", "raise", strings.Repeat(" ", 6), strings.Join(words, "  "), strings.Join(words, "\t"), strings.Join(words, " ") + "\r", strings.Repeat("raise ", 100000)} {
		wantNoEdit(t, text, api.ErrSyntax)
	}
}

// P181: what has the form is asked for CheckEdit's errors, with the bits of NaNs and infinities, too.
func TestParseEditErrors(t *testing.T) {
	for text, want := range map[string]api.Errno{
		"raise flat 4194305 0 1 00000000 00000000":               api.ErrPlace,
		"raise flat 0 -4194305 0 7fc00000 00000000":              api.ErrPlace,
		"raise flat 9223372036854775807 0 1 00000000 00000000":   api.ErrPlace,
		"soften bell -9223372036854775808 0 1 00000000 00000000": api.ErrPlace,
		"raise flat 0 0 0 7fc00000 00000000":                     api.ErrRange,
		"raise flat 0 0 257 00000000 00000001":                   api.ErrRange,
		"set flat 0 0 -1 00000000 00000000":                      api.ErrRange,
		"set flat 0 0 9 00000000 7fc00000":                       api.ErrForm,
		"level cone 0 0 9 00000000 7f800001":                     api.ErrForm,
		"level cone 0 0 9 00000000 ffffffff":                     api.ErrForm,
		"raise bell 0 0 9 ff800000 00000000":                     api.ErrForm,
		"raise bell 0 0 9 7fbfffff 49800001":                     api.ErrForm,
		"raise bell 0 0 9 49800001 7f800000":                     api.ErrRange,
		"set flat 0 0 9 00000000 c9800001":                       api.ErrRange,
		"set flat 0 0 9 80000000 c9800001":                       api.ErrRange,
		"set flat 0 0 9 80000000 49800000":                       api.ErrForm,
		"level flat 0 0 9 3f800000 3f800000":                     api.ErrForm,
		"soften flat 0 0 9 00000000 80000000":                    api.ErrForm,
		"soften flat 0 0 9 00000001 00000000":                    api.ErrForm,
		"raise flat 0 0 9 3f800000 80000000":                     api.ErrForm,
	} {
		wantNoEdit(t, text, want)
	}
}

// signed is a journal with these lines.
func signed(lines ...string) string {
	text, before := "", ""
	for _, line := range lines {
		before = digestOf(before + line)
		text += line + " " + before + "\n"
	}
	return text
}

// P182: a journal has a line for each Edit, Undo and Redo that had no error, with a digest of all before it.
func TestJournal(t *testing.T) {
	w := newWorld(t, flatGraph(1), region(0, 0, 4, 4), 2)
	a, b := raise(1, 0, 0, 1, 1), set(3, -5, 5, 9, minusZero)
	w.Undo()
	w.Redo()
	w.Edit(a)
	w.Redo()
	w.Edit(b)
	w.Edit(api.Edit{Kind: 5})
	w.Undo()
	w.Undo()
	w.Undo()
	w.Redo()
	w.Build(3)
	w.Join()
	w.Forget(1)
	w.Tile(0)
	w.Redo()
	w.Redo()
	if want := signed(lineOf(a), lineOf(b), "undo", "undo", "redo", "redo"); w.Journal() != want {
		t.Errorf("Journal is %q, want %q", w.Journal(), want)
	}
	first := "raise flat 0 0 1 3f800000 00000000"
	d := digestOf(first)
	if w = newWorld(t, flatGraph(1), region(0, 0, 4, 4), 2); w.Edit(a) != api.OK || w.Undo() != api.OK || w.Journal() != first+" "+d+"\nundo "+digestOf(d+"undo")+"\n" {
		t.Errorf("Journal is %q", w.Journal())
	}
}

// acted is a world with a long history, and the edits that stood behind each line of its journal.
func acted(t *testing.T, n *numbers, g api.Graph, r api.Region, side int) (*tile.World, [][]api.Edit) {
	t.Helper()
	w := newWorld(t, g, r, side)
	stood := [][]api.Edit{nil}
	for range 25 {
		e := api.OK
		switch n.between(0, 4) {
		case 0, 1:
			e = w.Edit(n.edit(r, 9))
		case 2, 3:
			e = w.Undo()
		case 4:
			e = w.Redo()
		}
		if e == api.OK {
			stood = append(stood, w.Edits())
		}
		if n.between(0, 9) == 0 {
			w.Build(n.between(1, 9))
			w.Forget(n.between(0, 9))
		}
	}
	return w, stood
}

// P182: any beginning of a journal has the edits behind its whole lines, and goes on as the world did.
func TestReplay(t *testing.T) {
	n := &numbers{state: 21}
	r := region(-4, -4, 9, 9)
	for range 40 {
		w, stood := acted(t, n, flatGraph(1), r, 3)
		journal := w.Journal()
		for end := range len(journal) + 1 {
			part := journal[:end]
			lines := strings.Count(part, "\n")
			x, many, e := tile.Replay(flatGraph(1), r, 3, part)
			if e != api.OK || many != lines || x.Journal() != part[:strings.LastIndexByte(part, '\n')+1] {
				t.Fatalf("Replay of %q: %d lines, error %d", part, many, e)
			}
			wantEdits(t, "Replay", x.Edits(), stood[lines])
		}
		// What was undone can be done again in the new world, too, and both go on in the same way.
		x, _, _ := tile.Replay(flatGraph(1), r, 3, journal)
		for range 10 {
			wantError(t, "Redo", x.Redo(), w.Redo())
		}
		for range 10 {
			wantError(t, "Undo", x.Undo(), w.Undo())
		}
		wantEdits(t, "Undo", x.Edits(), w.Edits())
		if x.Journal() != w.Journal() {
			t.Errorf("the journals are %q and %q", x.Journal(), w.Journal())
		}
		wantCounts(t, "Replay", x, 0, 0)
	}
}

// P182: a line that was changed, and all behind it, does not count.
func TestReplayOfChangedLines(t *testing.T) {
	n := &numbers{state: 22}
	r := region(-4, -4, 9, 9)
	changes := []byte("0123456789abcdef -\nuUrstx\x00\xff")
	for range 15 {
		w, stood := acted(t, n, flatGraph(1), r, 3)
		journal := w.Journal()
		for i := range len(journal) {
			c := pickOf(n, changes...)
			if journal[i] == c {
				continue
			}
			changed := journal[:i] + string([]byte{c}) + journal[i+1:]
			line := strings.Count(journal[:i], "\n")
			x, many, e := tile.Replay(flatGraph(1), r, 3, changed)
			if e != api.OK || many != line {
				t.Fatalf("Replay of %q: %d lines, error %d; want %d", changed, many, e, line)
			}
			wantEdits(t, "Replay", x.Edits(), stood[line])
		}
		lines := strings.SplitAfter(journal, "\n")
		for i := range len(lines) - 2 {
			l := slices.Delete(slices.Clone(lines), i, i+1)
			if _, many, _ := tile.Replay(flatGraph(1), r, 3, strings.Join(l, "")); many > i {
				t.Errorf("Replay without the line %d of %q: %d lines", i, journal, many)
			}
			l = slices.Clone(lines)
			l[i], l[i+1] = l[i+1], l[i]
			if _, many, _ := tile.Replay(flatGraph(1), r, 3, strings.Join(l, "")); l[i] != l[i+1] && many > i {
				t.Errorf("Replay with the line %d of %q later: %d lines", i, journal, many)
			}
		}
	}
}

// P182: Replay ends at a line that has another form, or cannot be done, also if its digest is right.
func TestReplayEnds(t *testing.T) {
	a, s := lineOf(raise(1, 0, 0, 1, 1)), lineOf(soften(1, 0, 0, 1))
	for _, c := range []struct {
		lines []string
		want  int
	}{
		{nil, 0}, {[]string{"undo"}, 0}, {[]string{"redo"}, 0}, {[]string{a, "redo", a}, 1}, {[]string{a, "undo", "undo", a}, 2}, {[]string{a, "undo", "redo", "redo", a}, 3}, {[]string{a, "undo", a, "redo"}, 3},
		{[]string{a, "", a}, 1}, {[]string{a, "undo ", a}, 1}, {[]string{a, " undo", a}, 1}, {[]string{a, "Undo", a}, 1}, {[]string{a, "undone", a}, 1}, {[]string{a, a + " ", a}, 1}, {[]string{a, " " + a, a}, 1},
		{[]string{a, "edit", a}, 1}, {[]string{a, "raise flat 0 0 1 3F800000 00000000"}, 1}, {[]string{a, "raise flat 0 0 0 3f800000 00000000", a}, 1}, {[]string{a, "set flat 0 0 1 00000000 7fc00000", a}, 1}, {[]string{a, "set flat 0 0 1 00000001 00000000"}, 1},
		{slices.Repeat([]string{s}, 60), 50}, {slices.Repeat([]string{a}, 510), 500}, {append(slices.Repeat([]string{a}, 500), "undo", a, a), 502}, {append(slices.Repeat([]string{s}, 50), a, s), 51},
	} {
		x, many, e := tile.Replay(flatGraph(1), region(0, 0, 4, 4), 2, signed(c.lines...))
		if e != api.OK || many != c.want || x.Journal() != signed(c.lines[:c.want]...) {
			t.Errorf("Replay of %q: %d lines, error %d; want %d", c.lines, many, e, c.want)
		}
	}
	whole := signed(a)
	for _, text := range []string{"", "\n", "\n" + whole, " ", a + "\n", a + " \n", a + digestOf(a) + "\n", a + "  " + digestOf(a) + "\n", whole[:len(whole)-1], whole[:len(whole)-1] + " \n", whole[:len(whole)-1] + "\r\n", a + " " + strings.ToUpper(digestOf(a)) + "\n", a + " 0" + digestOf(a) + "\n", strings.Repeat("x", 1<<20), digestOf("") + "\n", " " + digestOf("") + "\n", "undo\n"} {
		x, many, e := tile.Replay(flatGraph(1), region(0, 0, 4, 4), 2, text)
		if e != api.OK || many != 0 || x.Journal() != "" || len(x.Edits()) > 0 {
			t.Errorf("Replay of %q: %d lines, error %d", text[:min(len(text), 100)], many, e)
		}
	}
	x, many, e := tile.Replay(flatGraph(1), region(0, 0, 4, 4), 2, whole+"\n"+whole)
	if e != api.OK || many != 1 || x.Journal() != whole {
		t.Error("Replay with an empty line", many, e)
	}
}

// P182: of a journal that ends early the new world goes on with a right journal of its own.
func TestReplayGoesOn(t *testing.T) {
	a, b := raise(1, 0, 0, 1, 1), set(2, 1, 1, 2, math.Pi)
	journal := signed(lineOf(a), lineOf(b), "undo", "undo")
	x, many, e := tile.Replay(flatGraph(1), region(0, 0, 4, 4), 2, journal[:len(journal)-3])
	if e != api.OK || many != 3 {
		t.Fatal("Replay", many, e)
	}
	wantError(t, "Redo", x.Redo(), api.OK)
	edit(t, x, a)
	if want := signed(lineOf(a), lineOf(b), "undo", "redo", lineOf(a)); x.Journal() != want {
		t.Errorf("Journal is %q, want %q", x.Journal(), want)
	}
}
