package plant_test

import (
	"strings"
	"testing"

	"tarnfell/api"
	"tarnfell/plant"
)

func named() []api.Kind {
	return []api.Kind{like("fir", func(k *api.Kind) { k.Top = 8 }), like("oak", func(k *api.Kind) { k.Top = top }), like("firs", func(k *api.Kind) { k.Top = 0 }), like("qrstuvwxyzqrstuvwxyz", spaced(0))}
}

func wantText(t *testing.T, what, text string, e api.Errno, want string) {
	t.Helper()
	if e != api.OK || text != want {
		t.Errorf("%s: got %q, error %d; want %q", what, text, e, want)
	}
}

// P133: known plants, in both directions.
func TestPrintAndParse(t *testing.T) {
	for text, p := range map[string][]api.Plant{
		"":                           nil,
		"fir 0 0 4 0\nfir 1 0 6 0\n": {{Size: 4}, {X: 1, Size: 6}},
		"oak -4194304 -4194304 1.048576e+06 1000\nfirs 4194304 4194304 -0 7\n":  {{Kind: 1, X: -api.MaxPlace, Y: -api.MaxPlace, Size: top, Age: 1000}, {Kind: 2, X: api.MaxPlace, Y: api.MaxPlace, Size: minusZero, Age: 7}},
		"qrstuvwxyzqrstuvwxyz 12 -34 0.1 56\nfir -7 8 1e-45 0\noak 9 8 0 999\n": {{Kind: 3, X: 12, Y: -34, Size: 0.1, Age: 56}, {X: -7, Y: 8, Size: tiny}, {Kind: 1, X: 9, Y: 8, Age: 999}},
	} {
		s, e := plant.Print(named(), p)
		wantText(t, "Print", s, e, text)
		back, line, e := plant.Parse(named(), text)
		wantPlants(t, "Parse", back, e, p)
		if line != 0 {
			t.Error("Parse: line", line)
		}
	}
}

// P133: sizes in any form of numbers, the nearest single of each.
func TestParseSizes(t *testing.T) {
	for text, want := range map[string]float32{
		"4": 4, "4.0": 4, "004": 4, "0.4e1": 4, "40e-1": 4, "4e+0": 4, "4E0": -1, "-0": minusZero, "-0.000e5": minusZero, "-1e-99": minusZero, "1e-99": 0,
		"0.1": 0.1, "8": 8, "8.0000001": 8, "7.9999999999": 8, "+4": -1, ".5": -1, "5.": -1, "0x4": -1, "1_0": -1, "inf": -1, "NaN": -1, "4e0000": -1, "-": -1,
		strings.Repeat("0", 99) + "4": 4, strings.Repeat("0", 100) + "4": -1,
	} {
		p, line, e := plant.Parse(named(), "fir 1 2 3 4\nfir 5 2 "+text+" 6\n")
		if want == -1 {
			wantRefused(t, "Parse of "+text, len(p) > 0 || line != 1, e, api.ErrSyntax)
			continue
		}
		wantPlants(t, "Parse of "+text, p, e, []api.Plant{{X: 1, Y: 2, Size: 3, Age: 4}, {X: 5, Y: 2, Size: want, Age: 6}})
	}
}

// P133, P285: plants by chance are read as they are written.
func TestPlantsAreReadBack(t *testing.T) {
	n := &numbers{state: 18}
	for _, w := range append(n.woods(api.MaxYears), n.crowded()...) {
		text, e := plant.Print(w.l, w.p)
		wantText(t, "Print", text, e, printed(w.l, w.p))
		p, line, e := plant.Parse(w.l, text)
		wantPlants(t, "Parse", p, e, w.p)
		if line != 0 {
			t.Error("Parse: line", line)
		}
	}
	text, e := plant.Print(named(), many(api.MaxPlants))
	wantText(t, "Print", text, e, printed(named(), many(api.MaxPlants)))
	p, _, e := plant.Parse(named(), text)
	wantPlants(t, "Parse", p, e, many(api.MaxPlants))
}

func wantNoParse(t *testing.T, l []api.Kind, text string, line int, want api.Errno) {
	t.Helper()
	p, at, e := plant.Parse(l, text)
	if e != want || at != line || len(p) > 0 {
		t.Errorf("Parse of %.60q (%d bytes): got %d plants, line %d, error %d; want line %d, error %d", text, len(text), len(p), at, e, line, want)
	}
}

// P133: lines that have not the form, wherever they stand; ErrSyntax of a line comes ahead of ErrName of it, and behind that of the lines ahead.
func TestParseSyntax(t *testing.T) {
	for _, bad := range []string{
		"", " ", "fir", "fir 0 0 4", "fir 0 0 4 0 ", "fir 0 0 4 0 0", " fir 0 0 4 0", "fir  0 0 4 0", "fir 0  0 4 0", "fir 0 0  4 0", "fir 0 0 4  0", " 0 0 4 0", "fir\t0 0 4 0", "fir 0 0 4 0\r", "\nfir 0 0 4 0",
		"fir 00 0 4 0", "fir 0 01 4 0", "fir 0 0 4 00", "fir -0 0 4 0", "fir 0 -0 4 0", "fir 0 0 4 -0", "fir +1 0 4 0", "fir 0 +1 4 0", "fir 0 0 4 +1", "fir - 0 4 0", "fir 0 0 4 -", "fir 1.0 0 4 0", "fir 0 1e1 4 0", "fir 0 0 4 0x1", "fir a 0 4 0", "fir 0 a 4 0", "fir 0 0 a 0", "fir 0 0 4 a", "fir 0 0 4 ",
		"fir 1234567890 0 4 0", "fir 0 -1234567890 4 0", "fir 0 0 4 1000000000", "fir 0 0 4 -1000000000", "fir 99999999999999999999 0 4 0", "fir 0 0 4 99999999999999999999", "fir 0 000000000 4 0",
		"elm 00 0 4 0", "elm 0 0 4", "elm 0 0 4 0 0", "elm 0 0 x 0", "fir 0 9999999 -5 00", "fir 0 0 9e99 0 0",
	} {
		line := strings.Count(bad, "\n")
		wantNoParse(t, named(), bad+"\n", 0, api.ErrSyntax)
		wantNoParse(t, named(), "fir 0 0 4 0\noak 1 0 0 0\n"+bad+"\n", 2, api.ErrSyntax)
		wantNoParse(t, named(), bad+"\nelm 0 0 4 0\n", 0, api.ErrSyntax)
		wantNoParse(t, named(), "fir 9999999 0 4 0\nfir 0 0 9e99 0\nfir 0 0 9 1234\n"+bad+"\n"+strings.Repeat("\n", line), 3, api.ErrSyntax)
	}
	for _, open := range []string{"x", "fir 0 0 4 0", "fir 0 0 4 0\nfir 1 0 4 0", "fir 0 0 4 0\nfir 1 0 4 0\n ", "elm 0 0 4 0"} {
		wantNoParse(t, named(), open, strings.Count(open, "\n"), api.ErrSyntax)
	}
}

// P133: names that no kind has; they are looked for line by line, ahead of what is wrong with the plants.
func TestParseNames(t *testing.T) {
	for _, name := range []string{"elm", "Fir", "fi", "firss", "FIR", "fir\t", "\xff", "0", "-", "fir\r", strings.Repeat("a", 1<<20)} {
		wantNoParse(t, named(), name+" 0 0 4 0\n", 0, api.ErrName)
		wantNoParse(t, named(), "fir 0 0 4 0\n"+name+" 1 0 4 0\nx\n", 1, api.ErrName)
		wantNoParse(t, named(), "fir 9999999 0 4 0\nfir 0 0 9e99 0\n"+name+" 1 0 9e99 -5\n", 2, api.ErrName)
	}
}

// P133: what is wrong with the plants comes last, plant by plant; a number that is no height is a size out of range.
func TestParseOfBadPlants(t *testing.T) {
	for text, want := range map[string]api.Errno{
		"fir 4194305 0 4 0\n": api.ErrPlace, "fir 0 -4194305 4 0\n": api.ErrPlace, "fir 999999999 0 4 0\n": api.ErrPlace, "fir 0 -999999999 4 0\n": api.ErrPlace,
		"fir 0 0 8.0001 0\n": api.ErrRange, "fir 0 0 -1 0\n": api.ErrRange, "oak 0 0 1048577 0\n": api.ErrRange, "oak 0 0 -1048577 0\n": api.ErrRange, "fir 0 0 9e99 0\n": api.ErrRange, "fir 0 0 -9e99 0\n": api.ErrRange, "firs 0 0 1e-45 0\n": api.ErrRange,
		"fir 0 0 4 1001\n": api.ErrRange, "fir 0 0 4 -1\n": api.ErrRange, "fir 0 0 4 999999999\n": api.ErrRange, "fir 0 0 4 -999999999\n": api.ErrRange,
		"fir 0 0 4 0\nfir 0 0 4 0\n": api.ErrOrder, "fir 1 0 4 0\nfir 0 0 4 0\n": api.ErrOrder, "fir 0 1 4 0\nfir 1 0 4 0\n": api.ErrOrder,
		// The first bad plant decides, and its own errors come in order.
		"fir 4194305 0 9e99 0\n": api.ErrPlace, "fir 0 0 9e99 0\nfir 4194305 0 4 0\n": api.ErrRange, "fir 4194305 0 4 0\nfir 0 0 9e99 0\n": api.ErrPlace,
		"fir 0 0 4 0\nfir 0 0 9e99 0\n": api.ErrRange, "fir 0 0 4 0\nfir 0 0 4 0\nfir 5 0 9e99 0\n": api.ErrOrder, "fir 5 0 9e99 0\nfir 0 0 4 0\n": api.ErrRange,
		strings.Repeat("fir 0 0 9e99 0\n", api.MaxPlants+1): api.ErrLarge, strings.Repeat("fir 9999999 0 4 0\n", api.MaxPlants+1): api.ErrLarge,
		strings.Repeat("fir 9999999 0 4 0\n", api.MaxPlants): api.ErrPlace,
	} {
		wantNoParse(t, named(), text, 0, want)
	}
	wantNoParse(t, named(), strings.Repeat("fir 0 0 4 0\n", api.MaxPlants+1)+"x\n", api.MaxPlants+1, api.ErrSyntax)
	wantNoParse(t, named(), strings.Repeat("fir 0 0 4 0\n", api.MaxPlants+1)+"elm 0 0 4 0\n", api.MaxPlants+1, api.ErrName)
}

// P133: ErrLarge comes ahead of what is wrong in the text.
func TestParseLarge(t *testing.T) {
	for _, start := range []string{"", "x\n", "elm 0 0 4 0\n", "fir 0 0 4 0\n"} {
		wantNoParse(t, named(), start+strings.Repeat("x", api.MaxText+1-len(start)), 0, api.ErrLarge)
	}
	wantNoParse(t, named(), strings.Repeat("x", api.MaxText), 0, api.ErrSyntax)
	wantNoParse(t, named(), strings.Repeat("\n", api.MaxText), 0, api.ErrSyntax)
	wantNoParse(t, named(), strings.Repeat(" ", api.MaxText-1)+"\n", 0, api.ErrSyntax)
	wantNoParse(t, named(), strings.Repeat("fir 0 0 0 0\n", api.MaxText/12), 0, api.ErrLarge)
	wantNoParse(t, named(), strings.Repeat("fir 0 0 0 0\n", api.MaxText/12)+"fir ", api.MaxText/12, api.ErrSyntax)
}
