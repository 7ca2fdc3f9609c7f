package export_test

import (
	"fmt"
	"strings"
	"testing"

	"tarnfell/api"
	"tarnfell/export"
	"tarnfell/field"
)

func wantSession(t *testing.T, text, want string) {
	t.Helper()
	if got := export.Session(text); got != want {
		t.Errorf("Session of %.300q: %.300q, want %.300q", text, got, want)
	}
}

// lines are parted by /, so that they can be read in tests.
func lines(text string) string { return strings.ReplaceAll(text, "/", "\n") + "\n" }

const (
	hill  = "field 4/field 0 0 3 3/1 1 1/1 3 1/1 1 1"
	pit   = "field 4/field 5 -5 3 3/4 4 4/4 1 4/4 3 4"
	learn = "recipe 3/a = noise 2 7 16 4 0.5/b = scale a 10 -0/out b"
)

// P242: what each line writes, by hand.
func TestKnownSessions(t *testing.T) {
	for _, c := range [][2]string{
		{"", ""},
		{"/", ""},
		{"show/range/hit/draw 2 1/loss 1/loss 4/way 0 0 0 0/undo/mesh 1/height 0/eval 0 0 1 1", "field 0 0 1 1/0/0 0/none/  /0 1 29/0 1 36/0 0/0/error 13/error 2/error 10/error 13"},
		{"sum", "603390505"},
		{hill + "/show/range", "field 0 0 3 3/1 1 1/1 3 1/1 1 1/1 3"},
		{hill + "/mesh 0/mesh 1/mesh 2/mesh 1.99/height 2/height 1/height 3/height 4/height 0.5", "4/4/2/4/1 1/0 0/1 1/0 0/0 0"},
		{hill + "/way 0 0 2 2/way 2 1 0 1/way 0 0 0 3/way 1 1 1 1/way 1 1 0 0", "0 0 0 1 2/3.4142137/2 1 5 3/2.828427/error 5/1 1/0/error 11"},
		{hill + "/fill 0/range/undo/" + pit + "/fill 0/show/fill 0.5/show/fill 0.5/undo/undo/undo/show/undo/show", "1 3/field 5 -5 3 3/4 4 4/4 3 4/4 3 4/field 5 -5 3 3/4 4 4/4 3.5 4/4 3 4/field 5 -5 3 3/4 4 4/4 1 4/4 3 4/field 0 0 3 3/1 1 1/1 3 1/1 1 1"},
		{hill + "/carve 0.5 0 10 1/show/undo/carve 0.5 0 0.25 2/show/carve 1 0 1 0/range/carve 0.1 0.5 0.4 1/carve 2 0 1 1/carve 0 0 0 51", "field 0 0 3 3/1 1 1/1 2 1/1 1 1/field 0 0 3 3/1 1 1/1 2.5 1/1 1 1/1 2.5/error 8/error 3/error 3"},
		{hill + "/camera 0.5 1.5 4 1 0 -2 10/hit/camera 0.5 1.5 4 1 0 -1 10/hit/camera 0.5 1.5 -7 1 0 2 10/hit/camera 9 9 9 1 1 1 1/hit", "1 1 0.5/1 1 1/0 1 0/none"},
		{hill + "/camera -10 1.5 2 1 0 0 10/draw 5 3/camera -1 1.5 2 1 0 -1 20/draw 3 2/draw 0 1/draw 1 101/draw 100 1000", "     /  %  / %%% /###/###/error 3/error 3/error 3"},
		{"field 2/field 0 0 4 1/0 0.25 0.5 1.25/loss 1/loss 2/loss 3/loss 4/loss 5/scale 0 0.5 2/loss 4/loss 5/loss 1/scale 0 0.5 1/loss 4/loss 0/loss 6", "0 4 41/0 4 33/0 4 33/0.5 1 42/0.5 1 38/0.25 2 35/0.25 2 38/0 4 41/error 3/error 1/error 1"},
		{learn + "/eval 3 4 2 1/show/eval 0 0 0 1/eval 4194304 0 1 1/range", "field 3 4 2 1/3.6816883 3.7841797/error 3/error 5/3.6816883 3.7841797"},
		{"nosuch", "error 9"},
	} {
		want := lines(c[1])
		if c[1] == "" {
			want = ""
		}
		wantSession(t, lines(c[0]), want)
		wantSession(t, strings.TrimSuffix(lines(c[0]), "\n"), want)
	}
}

// P242: lines that have no right form.
func TestSessionForms(t *testing.T) {
	right := map[string]string{
		"recipe": "recipe 1", "eval": "eval 0 0 1 1", "field": "field 1", "show": "show", "sum": "sum", "range": "range", "camera": "camera 0 0 9 1 0 0 10", "draw": "draw 1 1",
		"scale": "scale 0 1 8", "loss": "loss 1", "fill": "fill 0", "carve": "carve 0 0 0 0", "way": "way 0 0 0 0", "mesh": "mesh 0", "hit": "hit", "height": "height 0", "undo": "undo",
	}
	if len(right) != len(forms) {
		t.Fatal("other forms")
	}
	for name, line := range right {
		for _, bad := range []string{" " + line, line + " ", line + " 1", line + "\r", line + "\t", strings.ToUpper(line), name + "x" + line[len(name):], "\t" + line, line + strings.Repeat(" 1", 9), line + "\x00"} {
			wantSession(t, bad+"\n", "error 9\n")
			wantSession(t, bad, "error 9\n")
		}
		if line == name {
			continue
		}
		wantSession(t, name+"\n", "error 9\n")
		wantSession(t, strings.Replace(line, " ", "  ", 1)+"\n", "error 9\n")
		wantSession(t, line[:strings.LastIndex(line, " ")]+"\n", "error 9\n")
		form := forms[formOf(name)]
		for k, word := range strings.Split(form, " ")[1:] {
			words := strings.Split(line, " ")
			for _, bad := range []string{"", "x", "+1", "-", "--1", "1-", "0x1", "1_0", "1,0", "1e", "1.", ".5", "inf", "NaN", "1e+", "1e1000", strings.Repeat("0", 101)} {
				words[k+1] = bad
				wantSession(t, strings.Join(words, " ")+"\n", "error 9\n")
			}
			if word != "#" {
				continue
			}
			for _, bad := range []string{"1.0", "1e0", "01", "-0", "00", "-01", "1000000000", "-1000000000", "0000000001", "99999999999999999999"} {
				words[k+1] = bad
				wantSession(t, strings.Join(words, " ")+"\n", "error 9\n")
			}
		}
	}
	for _, line := range []string{" ", "  ", "\t", "\r", "nosuch", "error 9", "fields 1", "recip 1", "draw", "1", "\xff", "#", "show # x", "show;"} {
		wantSession(t, line+"\n", "error 9\n")
		wantSession(t, line, "error 9\n")
	}
}

func formOf(name string) int {
	for i, form := range forms {
		if strings.HasPrefix(form+" ", name+" ") {
			return i
		}
	}
	panic("no form of " + name)
}

// P242: of several errors of a line that of its form comes first, then that of a number that is no height.
func TestSessionErrors(t *testing.T) {
	for _, c := range [][2]string{
		{"eval 0 0 0 0/eval 0 0 x 0/eval 0 0 1", "error 13/error 9/error 9"},
		{"fill 1048577/fill 1e999/fill -1/fill 1024.1/fill x", "error 3/error 3/error 3/error 3/error 9"},
		{"camera x 0 0 0 0 0 1e9/camera 1e9 x 0 0 0 0 1e9/camera 1e9 0 0 0 0 0 x/camera 1e9 0 0 0 0 0 0/camera 0 0 0 0 0 0 1/camera 0 0 0 1 0 0 1025/camera 0 0 0 1 0 0 0/camera 0 0 0 0.0009765625 0 0 0.0009765625", "error 9/error 9/error 9/error 3/error 3/error 3/error 3"},
		{"camera 0.5 0.5 0.5 1 0 -1 1/hit/camera 0 0 0 0 0 0 1/hit/camera 1e9 0 0 1 0 0 1/hit", "0 0 0.5/error 3/0 0 0.5/error 3/0 0 0.5"},
		{"scale 1e9 1 x/scale 0 0 8/scale 0 1 0/scale 0 1 25/scale 1e9 1 8/scale 0 1e9 99", "error 9/error 3/error 3/error 3/error 3/error 3"},
		{"scale 5 1 8/loss 4/scale 0 0 8/loss 4/scale -1 0.25 2/loss 4", "error 3/error 3/error 3/error 3"},
		{"scale -0.25 0.125 2/loss 4/scale 0 0 8/loss 5/loss 3/loss 2/loss 1/loss 7/loss -1/loss 999999999", "0 1 35/error 3/0 1 35/0 1 27/0 1 27/0 1 29/error 1/error 1/error 1"},
		{"mesh -1/mesh 1e9/" + hill + "/mesh -1/mesh 1e9/mesh x/mesh 1048576", "error 2/error 3/error 3/error 3/error 9/2"},
		{"height 1e9/height 5/height x/" + hill + "/height 1e9", "error 3/error 10/error 9/error 3"},
		{"carve 2 0 0 0/carve 1 1 0 0/carve 1 -1 0 0/carve 0 0 0 51/carve 0 0 0 -1/carve 1e9 0 0 x/carve 1 1 1e9 0", "error 3/error 8/error 3/error 3/error 3/error 9/error 3"},
		{"way 0 0 1 0/way -1 0 0 0/way 999999999 0 0 0/way 0 0 0 -999999999", "error 5/error 5/error 5/error 5"},
		{"field 2/field 0 0 2 1/0 2/way 0 0 1 0/undo/field 2/field 0 0 2 1/0 1/way 0 0 1 0", "error 11/0 0 0/5"},
		{"field 2/field 0 0 2 1/1 1e9/range/field 2/field 0 0 2 1/1 x/range/field 2/field 0 0 0 1/1/field 2/field 4194304 0 1 1/1/field 2/field 0 0 512 512/1/undo", "error 3/0 0/error 9/0 0/error 3/error 5/error 4/error 13"},
		{"recipe 2/a = const 1/out b/eval 0 0 1 1/recipe 2/a = const x/out a/recipe 1/out a/recipe 2/a = const 1/out a/eval 0 0 1 1/range/recipe 2/a = nosuch 1/out a/eval 1 1 2 1/show", "error 6/error 13/error 9/error 10/1 1/error 9/field 1 1 2 1/1 1"},
		{"recipe 4/a = const 1/b = const 0/c = div a b/out c/eval 0 0 1 1/undo", "error 3/error 13"},
	} {
		wantSession(t, lines(c[0]), lines(c[1]))
	}
}

// P242: lines that belong to others; those that are missing.
func TestSessionBlocks(t *testing.T) {
	for _, c := range [][2]string{
		{"field 0/range", "error 9/0 0"}, {"recipe 0/range", "error 9/0 0"}, {"field -1/range", "error 9/0 0"}, {"recipe -5/range", "error 9/0 0"}, {"recipe x/range", "error 9/0 0"}, {"field 1 1/range", "error 9/0 0"},
		{"field 3/range/range", "error 9"}, {"recipe 2/range", "error 9"}, {"recipe 999999999/range/range", "error 9"}, {"field 1", "error 9"}, {"field 2/range/range/range", "error 9/0 0"}, {"recipe 2/range/range/range", "error 9/0 0"},
		{"field 2/field 0 0 1 1/range/range", "error 9/0 0"}, {"field 2/field 0 0 1 1/7/range", "7 7"}, {"field 3/field 0 0 1 1/7/range/range", "error 9/0 0"}, {"field 3/field 0 0 1 1/7//range", "error 9/0 0"}, {"field 1/field 0 0 1 1/7/range", "error 9/error 9/0 0"},
		{"recipe 5//# x/ a  =\tconst 3 # y//out a/eval 0 0 1 1/range", "3 3"}, {"recipe 1/undo/undo", "error 9/error 13"}, {"/range///range/", "0 0/0 0"},
	} {
		wantSession(t, lines(c[0]), lines(c[1]))
	}
	// The last line need not end with a line feed, and gets one if it belongs to a field.
	wantSession(t, "field 2\nfield 0 0 1 1\n7", "")
	wantSession(t, "field 2\nfield 0 0 1 1", "error 9\n")
	wantSession(t, "field 2\nfield 0 0 1 1\n", "error 9\n")
	wantSession(t, "recipe 2\na = const 1\nout a", "")
	wantSession(t, "field 3\nfield 0 0 1 1\n7\n\n", "error 9\n")
	wantSession(t, "range\nrange", "0 0\n0 0\n")
	wantSession(t, "\n\nrange", "0 0\n")
	// A recipe may have 65536 bytes, its last line feed among them.
	head, foot := "recipe 3\na = const 1\n#", "\nout a\neval 0 0 1 1\nrange\n"
	room := 65536 - len("a = const 1\n#") - len("\nout a\n")
	wantSession(t, head+strings.Repeat("x", room)+foot, "1 1\n")
	wantSession(t, head+strings.Repeat("x", room+1)+foot, "error 4\nerror 13\n0 0\n")
}

// P242: up to 20 lines that changed the field are taken back, and no other lines.
func TestSessionUndo(t *testing.T) {
	var text, want strings.Builder
	for i := range 25 {
		fmt.Fprintf(&text, "field 2\nfield %d 0 1 1\n%d\nfill -1\nrange\n", i, i)
		fmt.Fprintf(&want, "error 3\n%d %d\n", i, i)
	}
	for i := range 22 {
		text.WriteString("undo\nrange\n")
		if i >= 20 {
			want.WriteString("error 13\n")
		}
		left := max(23-i, 4)
		fmt.Fprintf(&want, "%d %d\n", left, left)
	}
	wantSession(t, text.String(), want.String())
	// What is taken back makes room for other lines.
	for _, c := range [][2]string{
		{hill + "/fill 0/carve 0.5 0 10 1/range/undo/range/undo/undo/range/undo/" + pit + "/range/undo/range/undo", "1 2/1 3/0 0/error 13/1 4/0 0/error 13"},
		{"undo/" + learn + "/undo/camera 0 0 9 1 0 0 1/scale 0 1 5/undo/draw 1 1/undo/field 2/field 0 0 1 1/x/undo/eval 0 0 0 1/undo", "error 13/error 13/error 13/ /error 13/error 9/error 13/error 3/error 13"},
		{"field 2/field 0 0 1 1/0.75/scale 0 0.5 5/camera -1 0 2 1 0 0 1/loss 4/undo/range/loss 4/scale 0.5 0.5 5/loss 4/hit", "0.25 0 35/0 0/0 1 35/error 3/none"},
		{"fill 0/undo/undo/carve 0 0 0 0/undo/undo/" + learn + "/eval 0 0 1 1/undo/range/undo", "error 13/error 13/0 0/error 13"},
	} {
		wantSession(t, lines(c[0]), lines(c[1]))
	}
	many := strings.Repeat("fill 0\n", 100) + strings.Repeat("undo\n", 19) + "fill 0\n" + strings.Repeat("undo\n", 3)
	wantSession(t, many, "error 13\n")
}

// P242: texts that are too large.
func TestSessionLimit(t *testing.T) {
	wantSession(t, strings.Repeat("\n", api.MaxText), "")
	wantSession(t, strings.Repeat("\n", api.MaxText-5)+"range", "0 0\n")
	wantSession(t, strings.Repeat("\n", api.MaxText+1), "error 4\n")
	wantSession(t, "range\n"+strings.Repeat("x", api.MaxText), "error 4\n")
	wantSession(t, strings.Repeat(" ", api.MaxText), "error 9\n")
	wantSession(t, "recipe 999999999"+strings.Repeat("\n", api.MaxText-16), "error 9\n")
}

func (n *numbers) word(form string) string {
	if form == "#" {
		return fmt.Sprint(pickOf(n, n.between(-3, 9), n.between(0, 5), 1, 3, n.between(-100, 100)))
	}
	return pickOf(n, "0", "1", "-1", "0.5", "2.25", "10", "-3e-1", fmt.Sprint(n.single()), fmt.Sprint(n.single()*20), "1e-30", "-0", "1048576")
}

func (n *numbers) printed(r api.Region) string {
	l := n.fields(r)
	text, _ := field.Print(l[n.between(0, len(l)-1)])
	return text
}

// line is one that may be right, with those that belong to it.
func (n *numbers) line() string {
	form := forms[n.between(0, len(forms)-1)]
	words := strings.Split(form, " ")
	for i, word := range words[1:] {
		words[i+1] = n.word(word)
	}
	switch words[0] {
	case "recipe":
		return pickOf(n, learn, "recipe 4/b = const 2.5/c = noise 1 5 4 2 0.5/a = mul b c/out a", "recipe 3/a = noise 3 9 5 2 0.5/b = slope a/out b", "recipe 2/a = const 1/out b") + "/"
	case "field":
		r := region(n.between(-5, 5), n.between(-5, 5), n.between(1, 5), n.between(1, 5))
		return fmt.Sprintf("field %d/%s", r.H+1, strings.ReplaceAll(n.printed(pickOf(n, r, region(0, 0, 3, 3), region(r.X, r.Y, 5, 5))), "\n", "/"))
	case "eval":
		words = append(words[:1], fmt.Sprint(n.between(-5, 5)), fmt.Sprint(n.between(-5, 5)), fmt.Sprint(n.between(1, 6)), fmt.Sprint(n.between(1, 6)))
	case "way":
		for i := range 4 {
			words[i+1] = fmt.Sprint(n.between(-2, 5))
		}
	}
	return strings.Join(words, " ") + "/"
}

// script has many lines; a few of them are spoilt.
func (n *numbers) script() string {
	text := learn + "/" + pickOf(n, hill, pit, "fill 0", "camera 0.5 0.5 5 1 0.3 -0.9 20") + "/"
	for range n.between(1, 60) {
		text += n.line()
	}
	b := []byte(strings.ReplaceAll(text, "/", "\n"))
	for range n.between(0, 3) {
		b[n.between(0, len(b)-1)] = pickOf[byte](n, '0', '9', ' ', '\n', '-', 'x', '.', '1')
	}
	return string(b)
}

// P242: many lines, one after the other.
func TestSessions(t *testing.T) {
	n := &numbers{state: 70}
	wrong, all := 0, 0
	for range 1500 {
		text := n.script()
		want := sessionOf(text)
		wantSession(t, text, want)
		wrong += strings.Count(want, "error")
		all += strings.Count(want, "\n")
	}
	if wrong*2 > all || wrong < 1000 {
		t.Error("of", all, "lines", wrong, "are errors")
	}
}

// P243: what lines write does not hang on those behind them.
func TestSessionBeginnings(t *testing.T) {
	n := &numbers{state: 71}
	for range 60 {
		l := []string{lines(hill), lines(learn)}
		for range n.between(1, 30) {
			l = append(l, strings.ReplaceAll(n.line(), "/", "\n"))
		}
		whole := export.Session(strings.Join(l, ""))
		before := ""
		for many := range len(l) + 1 {
			part := export.Session(strings.Join(l[:many], ""))
			if !strings.HasPrefix(whole, part) || !strings.HasPrefix(part, before) {
				t.Errorf("Session of %q: %q; of its beginning with %d parts %q", l, whole, many, part)
			}
			before = part
		}
	}
}

// P242: the largest fields and drawings end soon.
func TestGreatestSession(t *testing.T) {
	text := learn + "/eval -256 -64 512 128/range/sum/loss 1/loss 2/scale -50 0.01 16/loss 5/camera -250 -60 20 1 0.2 -0.1 40/draw 100 100/hit/height 0/fill 0.001/carve 0.01 0.001 1 3/way -250 -60 250 60/show/eval 0 0 129 129/mesh 0.5/undo/undo/undo/undo/range"
	wantSession(t, lines(text), sessionOf(lines(text)))
}
