package export_test

import (
	"fmt"
	"math"
	"slices"
	"strings"
	"testing"

	"tarnfell/api"
	"tarnfell/export"
	"tarnfell/level"
)

func triangle(ax, ay, bx, by, cx, cy int) api.Triangle {
	return api.Triangle{A: at(ax, ay), B: at(bx, by), C: at(cx, cy)}
}

// wantObject wants a mesh to be written, and what is written to be read.
func wantObject(t *testing.T, l []api.Triangle, f api.Field) {
	t.Helper()
	want := objectOf(l, f)
	text, e := export.Object(l, f)
	wantText(t, "Object", text, e, want)
	corners, triangles, line, e := export.ReadObject(want)
	if line != 0 || e != api.OK || len(triangles) != len(l) {
		t.Errorf("ReadObject: line %d, error %d, %d triangles; want %d", line, e, len(triangles), len(l))
		return
	}
	var back strings.Builder
	for _, c := range corners {
		p := at(int(c[0]), int(c[2]))
		if v := f.V[p.Y*f.W+p.X]; !sameBits(v, c[1]) {
			t.Errorf("the height of %v is read as %v, want %v", p, c[1], v)
		}
		fmt.Fprintln(&back, p)
	}
	for i, v := range triangles {
		for k, p := range []api.Point{l[i].A, l[i].B, l[i].C} {
			if c := corners[v[k]]; c[0] != float32(p.X) || c[2] != float32(p.Y) {
				t.Errorf("the corner %v of the triangle %d is read as %v", p, i, c)
			}
		}
	}
	if strings.Count(want, "v ") != len(corners) {
		t.Errorf("%d corners are read, want %d", len(corners), strings.Count(want, "v "))
	}
}

// P239: meshes of all sizes, and triangles that make no mesh.
func TestObject(t *testing.T) {
	n := &numbers{state: 50}
	for k := 1; k <= 4; k++ {
		side := 1<<k + 1
		for _, f := range n.fields(region(-7, 12, side, side)) {
			for _, most := range []float32{0, 0.5, 3, top} {
				l, e := level.Mesh(f, most)
				wantError(t, "Mesh", e, api.OK)
				wantObject(t, l, f)
			}
			var l []api.Triangle
			for range n.between(0, 20) {
				cell := func() api.Point { return at(n.between(0, side-1), n.between(0, side-1)) }
				l = append(l, api.Triangle{A: cell(), B: cell(), C: cell()})
			}
			wantObject(t, l, f)
		}
	}
	f := of(100, -100, 3, 3, 0, 0, 0, 0, 4, 0, 0, 0, 1.5)
	text, e := export.Object([]api.Triangle{triangle(0, 0, 2, 2, 2, 0)}, f)
	wantText(t, "Object", text, e, "v 0 0 0\nv 2 0 0\nv 2 1.5 2\nf 1 3 2\n")
	f.V[4], f.V[8], f.V[5] = -1e-45, top, minusZero
	text, e = export.Object([]api.Triangle{triangle(2, 1, 1, 1, 2, 2), triangle(1, 1, 1, 1, 2, 2)}, f)
	wantText(t, "Object", text, e, "v 1 -1e-45 1\nv 2 -0 1\nv 2 1.048576e+06 2\nf 2 1 3\nf 1 1 3\n")
	text, e = export.Object(nil, f)
	wantText(t, "Object", text, e, "")
	text, e = export.Object([]api.Triangle{}, f)
	wantText(t, "Object", text, e, "")
}

// P239: the greatest mesh with the most triangles, and with heights of many digits.
func TestGreatestObject(t *testing.T) {
	n := &numbers{state: 51}
	f := n.field(region(0, 0, 129, 129), func() float32 { return -1.1754944e-38 - float32(n.between(0, 9))*tiny })
	l, e := level.Mesh(f, 0)
	wantError(t, "Mesh", e, api.OK)
	for len(l) < api.MaxTriangles {
		l = append(l, triangle(n.between(0, 128), n.between(120, 128), 128, 128, 127, 128))
	}
	l = l[:api.MaxTriangles]
	text, e := export.Object(l, f)
	wantError(t, "Object", e, api.OK)
	corners, triangles, line, e := export.ReadObject(text)
	if len(corners) < 10000 || len(triangles) != len(l) || line != 0 || e != api.OK {
		t.Error("ReadObject", len(corners), len(triangles), line, e)
	}
	if len(text) > api.MaxText {
		t.Error("the text has", len(text), "bytes")
	}
	l = append(l, triangle(0, 0, 2, 2, 2, 0))
	text, e = export.Object(l, f)
	wantNothing(t, "Object", text != "", e, api.ErrLarge)
	l[0].A.X = -1
	text, e = export.Object(l, f)
	wantNothing(t, "Object", text != "", e, api.ErrLarge)
}

// P239: the errors of Object, and their order.
func TestObjectErrors(t *testing.T) {
	right, wrong := triangle(0, 0, 2, 2, 2, 0), triangle(0, 0, 3, 2, 2, 0)
	wantBad := func(l []api.Triangle, f api.Field, want api.Errno) {
		t.Helper()
		text, e := export.Object(l, f)
		wantNothing(t, "Object", text != "", e, want)
	}
	many := slices.Repeat([]api.Triangle{wrong}, api.MaxTriangles+1)
	for _, l := range [][]api.Triangle{nil, {right}, {wrong}, many} {
		for _, bad := range badFields() {
			wantBad(l, bad.f, bad.want)
		}
		for _, r := range []api.Region{region(0, 0, 1, 1), region(0, 0, 2, 2), region(0, 0, 3, 5), region(0, 0, 4, 4), region(0, 0, 9, 8), region(0, 0, 255, 257), region(0, 0, 131, 131)} {
			wantBad(l, flat(r, 1), api.ErrForm)
		}
	}
	f := flat(region(0, 0, 3, 3), 1)
	wantBad(many, f, api.ErrLarge)
	for _, n := range outside(0, 2) {
		for i := range 6 {
			v := [6]int{0, 0, 2, 2, 2, 0}
			v[i] = n
			wantBad([]api.Triangle{right, triangle(v[0], v[1], v[2], v[3], v[4], v[5])}, f, api.ErrPlace)
		}
	}
}

// P239: texts that are read, in other forms than those that are written.
func TestReadObject(t *testing.T) {
	for _, c := range []struct {
		text      string
		corners   [][3]float32
		triangles [][3]int
	}{
		{"", nil, nil},
		{"v 1 2 3\n", [][3]float32{{1, 2, 3}}, nil},
		{"v 1.5 -2e1 -0\nf 1 1 1\n", [][3]float32{{1.5, -20, minusZero}}, [][3]int{{0, 0, 0}}},
		{"v 001 2.0 1048576\nv -1048576 1e-99 0.1\nf 2 1 2\nf 1 2 1", [][3]float32{{1, 2, top}, {-top, 0, 0.1}}, [][3]int{{1, 0, 1}, {0, 1, 0}}},
		{"v 0 0 0\nv 0 0 0\nv 0 0 0\nf 3 2 1", [][3]float32{{}, {}, {}}, [][3]int{{2, 1, 0}}},
		{"v 0 0 0", [][3]float32{{}}, nil},
	} {
		corners, triangles, line, e := export.ReadObject(c.text)
		same := slices.EqualFunc(corners, c.corners, func(a, b [3]float32) bool { return sameSingles(a[:], b[:]) })
		if !same || !slices.Equal(triangles, c.triangles) || line != 0 || e != api.OK {
			t.Errorf("ReadObject of %q: %v, %v, line %d, error %d; want %v, %v", c.text, corners, triangles, line, e, c.corners, c.triangles)
		}
	}
	text := strings.Repeat("v 0 0 0\n", 300000) + "f 1 299999 300000\n"
	corners, triangles, line, e := export.ReadObject(text)
	if len(corners) != 300000 || !slices.Equal(triangles, [][3]int{{0, 299998, 299999}}) || line != 0 || e != api.OK {
		t.Error("ReadObject", len(corners), triangles, line, e)
	}
}

// P239: texts that are no meshes, and the line that is wrong.
func TestReadObjectErrors(t *testing.T) {
	wantBad := func(text string, want int, wantE api.Errno) {
		t.Helper()
		corners, triangles, line, e := export.ReadObject(text)
		if len(corners) > 0 || len(triangles) > 0 || line != want || e != wantE {
			t.Errorf("ReadObject of %.60q (%d bytes): %d corners, %d triangles, line %d, error %d; want line %d, error %d", text, len(text), len(corners), len(triangles), line, e, want, wantE)
		}
	}
	for _, line := range []string{
		"", " ", "x", "v", "f", "v 1 2", "v 1 2 3 4", "v  1 2 3", " v 1 2 3", "v 1 2 3 ", "v\t1 2 3", "V 1 2 3", "vn 1 2 3", "# x", "v 1 2 x", "v 1 +2 3", "v 1 .5 3", "v 1 5. 3", "v 1 1e9 3", "v 1048576.1 2 3", "v 1 2 -1048577", "v 1 2 NaN", "v 1 inf 2", "v 1 2 3\r",
		"v " + strings.Repeat("0", 101) + " 2 3", "f 1 2", "f 1 2 3 1", "f 1 2 4", "f 0 1 2", "f 1 -1 2", "f 1 -0 2", "f 1 +1 2", "f 01 1 2", "f 1 1 1.0", "f 1 1 1e0", "f 1 1 x", "f 1 1 ", "f 1/1 2 3", "f 1  2 3", "f 1 2 3 ", "F 1 2 3", "f 4294967297 1 1", "f 99999999999999999999 1 1", "f 1000000 1 1",
	} {
		if line != "" {
			wantBad(line, 0, api.ErrSyntax)
			wantBad("v 1 2 3\nv 1 2 3\nv 1 2 3\n"+line, 3, api.ErrSyntax)
			wantBad("v 1 2 3\nv 1 2 3\nv 1 2 3\nf 1 2 3\n"+line, 4, api.ErrSyntax)
		}
		wantBad(line+"\n", 0, api.ErrSyntax)
		wantBad("v 1 2 3\nv 1 2 3\nv 1 2 3\n"+line+"\nf 1 2 3\nx\n", 3, api.ErrSyntax)
		wantBad("v 1 2 3\nv 1 2 3\nv 1 2 3\nf 3 2 1\n"+line+"\n", 4, api.ErrSyntax)
	}
	wantBad("f 1 1 1\n", 0, api.ErrSyntax)
	wantBad("v 1 2 3\nf 1 1 1\nv 1 2 3\n", 2, api.ErrSyntax)
	wantBad("v 1 2 3\nf 1 1 2\nv 1 2 3\n", 1, api.ErrSyntax)
	wantBad("v 1 2 3\nf 1 1 1\n\n", 2, api.ErrSyntax)
	wantBad(strings.Repeat("v 1 2 3\n", api.MaxText/8)+"x", 0, api.ErrLarge)
	wantBad(strings.Repeat("x", api.MaxText+1), 0, api.ErrLarge)
	wantBad(strings.Repeat("x", api.MaxText), 0, api.ErrSyntax)
	wantBad(strings.Repeat(" ", api.MaxText), 0, api.ErrSyntax)
	wantBad(strings.Repeat("v 1 2 3\n", api.MaxText/8-1)+"v 1 2 x\n", api.MaxText/8-1, api.ErrSyntax)
	wantBad("v 1 2 3\nf 1 1 "+fmt.Sprint(math.MaxInt)+"\n", 1, api.ErrSyntax)
}
