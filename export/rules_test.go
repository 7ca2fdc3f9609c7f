package export_test

import (
	"math"
	"slices"
	"strings"
	"testing"

	"tarnfell/api"
	"tarnfell/export"
	"tarnfell/field"
	"tarnfell/level"
)

var (
	wildInts    = []int{0, 1, -1, 2, 3, 5, 8, 24, 25, 100, 255, 256, 512, edge, -edge, 65535, 65536, 1 << 32, 1<<32 + 1, 1 << 40, 1 << 62, math.MaxInt, math.MinInt}
	wildSingles = []float32{0, minusZero, 1, -0.5, tiny, -tiny, 0x1p-10, 0x1p-126, 1024, 65504, 65520, top, -top, beyond, math.MaxFloat32, -math.MaxFloat32, inf, -inf, nan}
)

// G1, G3: no function panics, whatever its integers are.
func TestWildInts(t *testing.T) {
	f, grid := row(1, 2), of(0, 0, 3, 3, 1, 2, 3, 4, 5, 6, 7, 8, 9)
	for _, a := range wildInts {
		v, e := export.Whole(a)
		wantNothing(t, "Whole", e != api.OK && v != 0, e, e)
		v, e = export.Long(a)
		wantNothing(t, "Long", e != api.OK && v != 0, e, e)
		s, e := export.Fit(f, a)
		wantNothing(t, "Fit", e != api.OK && s != api.Scaling{}, e, e)
		text, e := export.Pack([]int{a, a})
		wantNothing(t, "Pack", e != api.OK && text != "", e, e)
		for _, b := range wildInts {
			s := api.Scaling{Step: 1, Bits: a}
			v, e := export.Value(s, b)
			wantNothing(t, "Value", e != api.OK && v != 0, e, e)
			n, in, e := export.Level(s, 5)
			wantNothing(t, "Level", e != api.OK && (n != 0 || in), e, e)
			text, e := export.Encode(f, b, s)
			wantNothing(t, "Encode", e != api.OK && text != "", e, e)
			lost, e2 := export.Loss(f, b, s)
			wantNothing(t, "Loss", e2 != api.OK && lost != api.Lost{}, e2, e)
			text, e = export.Draw(f, camera(), a, b)
			wantNothing(t, "Draw", e != api.OK && text != "", e, e)
			text, e = export.Picture(grid, []api.Tint{{Red: 1}, {At: 5, Green: 9}}, [3]int{a, b, a})
			wantNothing(t, "Picture", e != api.OK && text != "", e, e)
			c, e := export.Color([]api.Tint{{Red: a, Green: b}}, 1)
			wantNothing(t, "Color", e != api.OK && c != 0, e, e)
			text, e = export.Object([]api.Triangle{{A: at(a, b), B: at(b, a), C: at(0, a)}}, grid)
			wantNothing(t, "Object", e != api.OK && text != "", e, e)
			for _, r := range []api.Region{region(a, b, 2, 1), region(0, 0, a, b), region(b, 0, 1, a)} {
				wantWildField(t, api.Field{Region: r, V: []float32{1, 2}})
				g, e := export.Decode(signed(headOf(1+max(0, a)%5, r) + strings.Repeat("\x01", max(0, b)%60)))
				wantNothing(t, "Decode", e != api.OK && isSome(g), e, e)
			}
		}
	}
}

// wantWildField wants the errors of a field of all functions with fields.
func wantWildField(t *testing.T, f api.Field) {
	t.Helper()
	want := field.Check(f)
	check := func(what string, some bool, e api.Errno) {
		t.Helper()
		if e != api.OK || want != api.OK {
			wantNothing(t, what, some, e, e)
		}
		if want != api.OK {
			wantError(t, what, e, want)
		}
	}
	s, e := export.Fit(f, 8)
	check("Fit", s != api.Scaling{}, e)
	text, e := export.Encode(f, api.FormatHalf, api.Scaling{})
	check("Encode", text != "", e)
	lost, e := export.Loss(f, api.FormatShort, api.Scaling{})
	check("Loss", lost != api.Lost{}, e)
	text, e = export.Gray(f, 0, 1)
	check("Gray", text != "", e)
	text, e = export.Picture(f, []api.Tint{{}}, [3]int{})
	check("Picture", text != "", e)
	text, e = export.Object(nil, f)
	check("Object", text != "", e)
	text, e = export.Draw(f, camera(), 2, 2)
	check("Draw", text != "", e)
}

// G1, G3, G7: no function panics, whatever its singles are, and no result has a NaN.
func TestWildSingles(t *testing.T) {
	for _, a := range wildSingles {
		n, _ := export.Half(a)
		if v, e := export.Whole(n); e == api.OK && math.IsNaN(float64(v)) {
			t.Error("Whole of Half", a, v)
		}
		if v, e := export.Long(export.Short(a)); e == api.OK && math.IsNaN(float64(v)) {
			t.Error("Long of Short", a, v)
		}
		for _, b := range wildSingles {
			wantWildField(t, row(a, b, 1))
			for _, c := range wildSingles {
				for bits := range 26 {
					s := api.Scaling{Low: a, Step: b, Bits: bits}
					n, in, e := export.Level(s, c)
					wantNothing(t, "Level", e != api.OK && (n != 0 || in), e, e)
					if e != api.OK {
						continue
					}
					v, e := export.Value(s, n)
					wantNothing(t, "Value", e != api.OK && v != 0, e, e)
					wantError(t, "a value", field.CheckHeights(v), api.OK)
					for _, format := range formats {
						lost, e := export.Loss(row(c, 0), format, scaleFor(format, s))
						wantNothing(t, "Loss", e != api.OK && lost != api.Lost{}, e, e)
						wantError(t, "what is lost", field.CheckHeights(lost.Worst), api.OK)
					}
				}
				text, e := export.Gray(row(a, -a, 0), b, c)
				wantNothing(t, "Gray", e != api.OK && text != "", e, e)
				v, e := export.Color([]api.Tint{{At: a, Red: 9}, {At: b, Blue: 200}}, c)
				wantNothing(t, "Color", e != api.OK && v != 0, e, e)
				for _, e := range []api.Camera{{X: a, Y: b, H: c, DX: 1, DY: 0.5, DH: -1, Zoom: 3}, {DX: a, DY: b, DH: c, Zoom: 2}, {X: -4, H: 2, DX: a, DY: 1, DH: c, Zoom: b}} {
					p, ahead, is, bad := export.Project(e, b, c, a)
					wantNothing(t, "Project", (bad != api.OK || !is) && (is || ahead != 0 || p != api.Spot{}), bad, bad)
					if math.IsNaN(float64(p.X*0+p.Y*0)) || !isHeight(ahead) {
						t.Error("Project", e, p, ahead)
					}
					text, bad := export.Draw(row(1, 2, 0.5), e, 3, 2)
					wantNothing(t, "Draw", bad != api.OK && text != "", bad, bad)
				}
			}
		}
	}
}

// G1, G3: no text makes a function panic; what is read is right.
func TestWildTexts(t *testing.T) {
	n := &numbers{state: 80}
	words := []string{"TARN", "P2", "P3", "v", "f", "255", "1", "2", "0", "-1", "1e5", "x", " ", "\n", "\n", "\x00", "\xff", "field", "recipe", "eval", "undo", "\x00\x00\x00\x01", "\x80"}
	for range 30000 {
		text := pickOf(n, "", "P2\n2 1\n255\n", "v 1 2 3\nv 4 5 6\n", "TARN\x01", headOf(n.between(0, 6), region(1, 2, 2, 1)))
		for range n.between(0, 12) {
			text += pickOf(n, words...) + pickOf(n, "", "", " ")
		}
		f, e := export.Decode(pickOf(n, text, signed(text)))
		if e != api.OK {
			wantNothing(t, "Decode", isSome(f), e, e)
		} else {
			wantError(t, "what is decoded", field.Check(f), api.OK)
		}
		w, h, l, e := export.ReadGray(text)
		if e != api.OK && (w != 0 || h != 0 || len(l) > 0) || e == api.OK && len(l) != w*h {
			t.Errorf("ReadGray of %q: %d, %d, %v, error %d", text, w, h, l, e)
		}
		corners, triangles, line, e := export.ReadObject(text)
		if e != api.OK && (len(corners) > 0 || len(triangles) > 0) || e == api.OK && line != 0 {
			t.Errorf("ReadObject of %q: %v, %v, line %d, error %d", text, corners, triangles, line, e)
		}
		wantSession(t, text, sessionOf(text))
		export.Unpack(text)
		export.Sum(text)
	}
}

func fill[T any](l []T, v T) {
	l = l[:cap(l)]
	for i := range l {
		l[i] = v
	}
}

// roomy has room behind a list, in which something stands.
func roomy[T any](l []T, v T) []T { return append(slices.Clone(l), v, v)[:len(l)] }

// wantLeft wants a list, and the room behind it, to be as they were.
func wantLeft[T comparable](t *testing.T, what string, l, want []T, v T) {
	t.Helper()
	if !slices.Equal(l, want) || !slices.Equal(l[len(l):len(l)+2], []T{v, v}) {
		t.Errorf("%s is changed: %v", what, l[:len(l)+2])
	}
}

// G2: arguments, and the room behind them, are left alone; results are new memory, and calls leave no state.
func TestArgumentsAreLeftAlone(t *testing.T) {
	n := &numbers{state: 81}
	values := n.field(region(0, 0, 5, 5), func() float32 { return float32(n.between(0, 7)) }).V
	f := api.Field{Region: region(-3, 4, 5, 5), V: roomy(values, 77)}
	p := []api.Tint{{At: 0, Red: 5}, {At: 3, Green: 9}, {At: 7, Blue: 200}}
	tints := roomy(p, api.Tint{At: 77})
	mesh, _ := level.Mesh(f, 0.5)
	triangles := roomy(mesh, triangle(7, 7, 7, 7, 7, 7))
	list := roomy([]int{5, -9, 1000}, 77)
	s := api.Scaling{Step: 1, Bits: 3}
	all := func() []string {
		var l []string
		add := func(text string, e api.Errno) {
			wantError(t, "a text", e, api.OK)
			l = append(l, text)
		}
		for _, format := range formats {
			add(export.Encode(f, format, scaleFor(format, s)))
			export.Loss(f, format, scaleFor(format, s))
		}
		add(export.Gray(f, 1, 5))
		add(export.Picture(f, tints, [3]int{1, 2, 3}))
		add(export.Picture(f, tints, [3]int{}))
		add(export.Object(triangles, f))
		add(export.Pack(list))
		add(export.Draw(f, camera(), 9, 5))
		export.Color(tints, 4)
		export.Fit(f, 9)
		return append(l, export.Session(lines(hill+"/show")))
	}
	first := all()
	wantLeft(t, "the field", f.V, values, 77)
	wantLeft(t, "the palette", tints, p, api.Tint{At: 77})
	wantLeft(t, "the mesh", triangles, mesh, triangle(7, 7, 7, 7, 7, 7))
	wantLeft(t, "the list", list, []int{5, -9, 1000}, 77)
	if !slices.Equal(all(), first) {
		t.Error("the results of the same calls are other ones")
	}
	for range 2 {
		g, e := export.Decode(first[0])
		wantField(t, "Decode", g, e, f)
		fill(g.V, 9)
		l, e := export.Unpack("\x02\x04")
		wantList(t, "Unpack", l, e, 1, 2)
		fill(l, 9)
		_, _, shades, e := export.ReadGray("P2\n2 1\n255\n3 4\n")
		wantList(t, "ReadGray", shades, e, 3, 4)
		fill(shades, 9)
		corners, parts, _, e := export.ReadObject("v 1 2 3\nf 1 1 1\n")
		wantList(t, "ReadObject", corners, e, [3]float32{1, 2, 3})
		wantList(t, "ReadObject", parts, e, [3]int{0, 0, 0})
		fill(corners, [3]float32{})
		fill(parts, [3]int{9, 9, 9})
	}
}

// G3: nil and empty lists are the same.
func TestEmptyLists(t *testing.T) {
	for _, l := range [][]int{nil, {}} {
		text, e := export.Pack(l)
		wantText(t, "Pack", text, e, "")
	}
	for _, p := range [][]api.Tint{nil, {}} {
		wantError(t, "CheckPalette", export.CheckPalette(p), api.ErrEmpty)
	}
	l, e := export.Unpack("")
	wantList(t, "Unpack", l, e)
}
