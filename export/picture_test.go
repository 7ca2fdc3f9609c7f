package export_test

import (
	"fmt"
	"math"
	"strconv"
	"strings"
	"testing"

	"tarnfell/api"
	"tarnfell/export"
	"tarnfell/shape"
)

func wantGray(t *testing.T, f api.Field, low, high float32) {
	t.Helper()
	want := grayOf(f, low, high)
	text, e := export.Gray(f, low, high)
	wantText(t, "Gray", text, e, want)
	w, h, l, e := export.ReadGray(want)
	if w != f.W || h != f.H || e != api.OK || len(l) != w*h {
		t.Errorf("ReadGray: %d, %d, %d numbers, error %d; want %v", w, h, len(l), e, f.Region)
		return
	}
	i := -1
	if back := fmt.Sprintf("P2\n%d %d\n255\n", w, h) + rowsOf(f.Region, func(api.Point) string { i++; return strconv.Itoa(l[i]) }); back != want {
		t.Errorf("ReadGray of %q: %q", want, back)
	}
}

// P236: pictures of fields of all kinds, and what is read of them.
func TestGray(t *testing.T) {
	n := &numbers{state: 40}
	for _, r := range regions() {
		for _, f := range n.fields(r) {
			for range 5 {
				low, high := pickOf(n, n.single(), n.height(top), -top, 0, minusZero), pickOf(n, n.single(), n.height(top), top, tiny, 5)
				if low < high {
					wantGray(t, f, low, high)
				}
			}
			wantGray(t, f, 0, 1)
			wantGray(t, f, f.V[0], after(f.V[0])+1)
		}
	}
	for _, r := range []api.Region{region(-edge, -edge, 512, 128), region(edge-256, edge-256, 256, 256), region(0, 0, 1, 512), region(0, 0, 512, 1)} {
		wantGray(t, n.field(r, n.single), -0.9, 0.9)
	}
}

// P236: known pictures: halves are rounded up, and what is beyond the bounds is at them, also where the quotient is infinite.
func TestKnownGray(t *testing.T) {
	for _, c := range []struct {
		f         api.Field
		low, high float32
		want      string
	}{
		{row(0, 1, 4), 0, 2, "P2\n3 1\n255\n0 128 255\n"},
		{of(7, 8, 2, 3, -9, 0, 0.5, 1.4999, 254.5, 255.5), 0, 255, "P2\n2 3\n255\n0 0\n1 1\n255 255\n"},
		{row(0, -1, 1, minusZero), 0, tiny, "P2\n4 1\n255\n0 0 255 0\n"},
		{row(-top, top, 0), -top, top, "P2\n3 1\n255\n0 255 128\n"},
		{row(0.4999), 0, 255, "P2\n1 1\n255\n0\n"},
	} {
		text, e := export.Gray(c.f, c.low, c.high)
		wantText(t, "Gray", text, e, c.want)
	}
}

// P236: the errors of Gray, and their order.
func TestGrayErrors(t *testing.T) {
	wantBad := func(f api.Field, low, high float32, want api.Errno) {
		t.Helper()
		text, e := export.Gray(f, low, high)
		wantNothing(t, "Gray", text != "", e, want)
	}
	f := row(1, 2)
	for _, bad := range badFields() {
		wantBad(bad.f, 0, 1, bad.want)
		wantBad(bad.f, nan, nan, bad.want)
		wantBad(bad.f, 1, 0, bad.want)
	}
	for _, s := range badSingles(-top, top) {
		wantBad(f, s.v, 1, s.want)
		wantBad(f, 0, s.v, s.want)
		wantBad(f, s.v, s.v, s.want)
		wantBad(f, beyond, s.v, s.want)
		wantBad(f, s.v, beyond, s.want)
	}
	for _, low := range []float32{0, 1, top, tiny, -5} {
		wantBad(f, low, low, api.ErrOrder)
		wantBad(f, low, before(low), api.ErrOrder)
	}
	wantBad(f, -top, -top, api.ErrOrder)
	wantBad(f, minusZero, 0, api.ErrOrder)
	wantBad(f, 0, minusZero, api.ErrOrder)
}

// P236: texts that are no gray pictures.
func TestReadGrayErrors(t *testing.T) {
	wantBad := func(text string, want api.Errno) {
		t.Helper()
		w, h, l, e := export.ReadGray(text)
		if w != 0 || h != 0 || len(l) > 0 || e != want {
			t.Errorf("ReadGray of %.60q (%d bytes): %d, %d, %d numbers, error %d; want %d", text, len(text), w, h, len(l), e, want)
		}
	}
	for _, text := range []string{
		"", "\n", "P2", "P2\n", "1 1\n255\n7\n", "\n1 1\n255\n7\n", "P2\n1 1\n", "P2\n1 1\n255\n", "P2\n1 1\n255\n7", "P2\n1 1\n255\n7\n\n", "P2\n1 1\n255\n7\n7\n", "P2\n1 1\n255\n7\nx", "P2\n1 1\n255\n7 7\n", "P2\n1 1\n255\n\n", "P2\n1 1\n255\n7 \n", "P2\n1 1\n255\n 7\n",
		"P3\n1 1\n255\n7\n", "p2\n1 1\n255\n7\n", "P2 \n1 1\n255\n7\n", " P2\n1 1\n255\n7\n", "\nP2\n1 1\n255\n7\n", "P2\r\n1 1\n255\n7\n", "P2 1 1 255 7\n", "P2\n# x\n1 1\n255\n7\n", "P2\n1 1 255\n7\n", "P2\n\n1 1\n255\n7\n",
		"P2\n1 1\n254\n7\n", "P2\n1 1\n256\n7\n", "P2\n1 1\n0255\n7\n", "P2\n1 1\n255 \n7\n", "P2\n1 1\n65535\n7\n", "P2\n1 1\n\n7\n", "P2\n1 1\n0\n0\n",
		"P2\n1  1\n255\n7\n", "P2\n01 1\n255\n7\n", "P2\n1 +1\n255\n7\n", "P2\n1\n255\n7\n", "P2\n1 1 1\n255\n7\n", "P2\n-1 1\n255\n7\n", "P2\n0 1\n255\n\n", "P2\n1 0\n255\n", "P2\n513 1\n255\n" + strings.Repeat("0 ", 512) + "0\n", "P2\n1 513\n255\n" + strings.Repeat("0\n", 513),
		"P2\n512 129\n255\n" + strings.Repeat(strings.Repeat("0 ", 511)+"0\n", 129), "P2\n99999999999999999999 1\n255\n7\n", "P2\n4294967297 1\n255\n7\n",
		"P2\n1 1\n255\n256\n", "P2\n1 1\n255\n-1\n", "P2\n1 1\n255\n-0\n", "P2\n1 1\n255\n07\n", "P2\n1 1\n255\n7.0\n", "P2\n1 1\n255\nx\n", "P2\n1 1\n255\n+7\n", "P2\n1 1\n255\n99999999999999999999\n", "P2\n1 1\n255\n4294967296\n",
		"P2\n2 2\n255\n1 2\n3\n", "P2\n2 2\n255\n1 2\n3 4 5\n", "P2\n2 2\n255\n1 2 3 4\n", "P2\n2 2\n255\n1\n2\n3\n4\n", "P2\n2 2\n255\n1 2\n3 4", "P2\n2 2\n255\n1  2\n3 4\n", "P2\n2 2\n255\n1\t2\n3 4\n", "P2\n2 1\n255\n1 2\n3 4\n", "P2\n2 2\n255\n1 2\n", "P2\n2 2\n255\n1 2\n\n3 4\n", "P2\n2 2\n255\n1 2\n3 256\n",
		"P2\n1 1\n255\n" + strings.Repeat(" ", api.MaxText-20), strings.Repeat("P2\n", api.MaxText/3), strings.Repeat("\n", api.MaxText),
	} {
		wantBad(text, api.ErrSyntax)
	}
	for _, text := range []string{strings.Repeat("\n", api.MaxText+1), "P2\n1 1\n255\n7\n" + strings.Repeat("\n", api.MaxText)} {
		wantBad(text, api.ErrLarge)
	}
	w, h, l, e := export.ReadGray("P2\n2 1\n255\n0 255\n")
	if wantList(t, "ReadGray", l, e, 0, 255); w != 2 || h != 1 {
		t.Error("ReadGray", w, h)
	}
}

// palette is one that is right, with tints near to each other and far away.
func (n *numbers) palette() []api.Tint {
	var p []api.Tint
	v := pickOf(n, n.single()*5, n.height(top), -top, minusZero)
	for len(p) < n.between(1, 6) || len(p) == 0 {
		p = append(p, api.Tint{At: v, Red: n.between(0, 255), Green: pickOf(n, 0, 255, 128), Blue: n.between(0, 255)})
		next := pickOf(n, after(v), v+size(n.single())*3, v+size(n.height(top)), v+1)
		if next <= v || !isHeight(next) {
			break
		}
		v = next
	}
	return p
}

func wantColor(t *testing.T, p []api.Tint, v float32) {
	t.Helper()
	c := colorsOf(p, v)
	n, e := export.Color(p, v)
	if want := c[0]*65536 + c[1]*256 + c[2]; n != want || e != api.OK {
		t.Errorf("Color of %v with %v: %#x, error %d; want %#x", v, p, n, e, want)
	}
}

// P237: colors at, beside and between tints.
func TestColor(t *testing.T) {
	n := &numbers{state: 41}
	for range 5000 {
		p := n.palette()
		wantError(t, "CheckPalette", export.CheckPalette(p), api.OK)
		for i, tint := range p {
			for _, v := range []float32{tint.At, before(tint.At), after(tint.At), n.height(top), n.single() * 6, top, -top} {
				if isHeight(v) {
					wantColor(t, p, v)
				}
			}
			if i > 0 {
				wantColor(t, p, min(top, max(-top, p[i-1].At+(tint.At-p[i-1].At)*size(n.single()))))
			}
		}
	}
	p := []api.Tint{{At: 0, Blue: 200}, {At: 2, Red: 100}, {At: 3, Red: 101, Green: 255, Blue: 1}}
	for v, want := range map[float32]int{-1: 200, 0: 200, minusZero: 200, 1: 50<<16 + 100, 2: 100 << 16, 2.5: 101<<16 + 128<<8 + 1, 2.499: 100<<16 + 127<<8, 3: 101<<16 + 255<<8 + 1, top: 101<<16 + 255<<8 + 1, -top: 200} {
		c, e := export.Color(p, v)
		wantInt(t, "Color", c, e, want)
	}
	c, e := export.Color([]api.Tint{{At: 5, Red: 1, Green: 2, Blue: 3}}, 7)
	wantInt(t, "Color", c, e, 1<<16+2<<8+3)
}

// P237: beside the places at which one color becomes the next one each rounding counts.
func TestColorsAtSteps(t *testing.T) {
	n := &numbers{state: 43}
	for range 60 {
		a := api.Tint{At: n.single() * 9, Red: n.between(0, 255), Green: 255}
		b := api.Tint{At: a.At + size(n.single())*9 + 0.1, Red: n.between(0, 255), Blue: 255}
		for k := range 256 {
			v := a.At + (b.At-a.At)*(float32(k)-0.5)/255
			for range 8 {
				v = before(v)
			}
			for range 17 {
				wantColor(t, []api.Tint{a, b}, v)
				v = after(v)
			}
		}
	}
}

// badPalette is a palette with what is said of it.
type badPalette struct {
	p    []api.Tint
	want api.Errno
}

func badPalettes() []badPalette {
	many := func(n int) []api.Tint {
		var p []api.Tint
		for i := range n {
			p = append(p, api.Tint{At: float32(i)})
		}
		return p
	}
	l := []badPalette{
		{nil, api.ErrEmpty}, {[]api.Tint{}, api.ErrEmpty}, {many(65), api.ErrLarge}, {make([]api.Tint, 65), api.ErrLarge}, {append(many(64), api.Tint{At: nan}), api.ErrLarge},
		{[]api.Tint{{At: 1}, {At: 1}}, api.ErrOrder}, {[]api.Tint{{At: 1}, {At: before(1)}}, api.ErrOrder}, {[]api.Tint{{At: minusZero}, {At: 0}}, api.ErrOrder}, {[]api.Tint{{At: 0}, {At: minusZero}}, api.ErrOrder},
		{[]api.Tint{{At: 1}, {At: 0}, {At: nan}}, api.ErrOrder}, {[]api.Tint{{At: 1}, {At: 0, Red: -1}}, api.ErrRange}, {[]api.Tint{{At: 1}, {At: 2, Red: 256}, {At: nan}}, api.ErrRange}, {[]api.Tint{{At: 1}, {At: 3}, {At: 2}}, api.ErrOrder},
		{[]api.Tint{{At: beyond}, {At: nan}}, api.ErrRange}, {[]api.Tint{{At: nan}, {At: beyond}}, api.ErrForm}, {append(many(63), api.Tint{At: 62}), api.ErrOrder},
	}
	for _, s := range badSingles(-top, top) {
		l = append(l, badPalette{[]api.Tint{{At: s.v, Red: -1}}, s.want}, badPalette{[]api.Tint{{At: top}, {At: s.v}}, s.want})
	}
	for _, part := range append(outside(0, 255), 256+7) {
		l = append(l, badPalette{[]api.Tint{{Red: part}}, api.ErrRange}, badPalette{[]api.Tint{{Green: part}}, api.ErrRange}, badPalette{[]api.Tint{{Blue: part}}, api.ErrRange}, badPalette{[]api.Tint{{At: 1}, {At: 0, Blue: part}}, api.ErrRange})
	}
	return l
}

// P237: the errors of palettes, of CheckPalette, Color and (P238) Picture.
func TestPaletteErrors(t *testing.T) {
	for _, s := range badPalettes() {
		wantError(t, "CheckPalette", export.CheckPalette(s.p), s.want)
		for _, v := range []float32{0, nan, beyond} {
			c, e := export.Color(s.p, v)
			wantNothing(t, "Color", c != 0, e, s.want)
		}
		for _, light := range [][3]int{{}, {1, 2, 3}, {1001, 0, 0}} {
			text, e := export.Picture(flat(region(0, 0, 1, 3), 5), s.p, light)
			wantNothing(t, "Picture", text != "", e, s.want)
			for _, bad := range badFields() {
				text, e := export.Picture(bad.f, s.p, light)
				wantNothing(t, "Picture", text != "", e, bad.want)
			}
		}
	}
	for _, s := range badSingles(-top, top) {
		c, e := export.Color([]api.Tint{{Red: 9}}, s.v)
		wantNothing(t, "Color", c != 0, e, s.want)
	}
	p := make([]api.Tint, 64)
	for i := range p {
		p[i] = api.Tint{At: float32(i), Red: 255, Green: 255, Blue: 255}
	}
	wantError(t, "CheckPalette", export.CheckPalette(p), api.OK)
}

// P238: pictures with and without light.
func TestPicture(t *testing.T) {
	n := &numbers{state: 42}
	for _, r := range regions() {
		for _, f := range n.fields(r) {
			p := n.palette()
			text, e := export.Picture(f, p, [3]int{})
			wantText(t, "Picture", text, e, pictureOf(f, p, [3]int{}))
			if r.W < 3 || r.H < 3 {
				continue
			}
			for _, light := range [][3]int{{0, 0, 1}, {n.between(-1000, 1000), n.between(-1000, 1000), n.between(1, 1000)}, {0, 0, -1}, {-1000, 1000, -1000}, {1, 0, 0}} {
				text, e := export.Picture(f, p, light)
				wantText(t, "Picture", text, e, pictureOf(f, p, light))
			}
		}
	}
	f := of(4, 5, 3, 3, 0, 0, 0, 0, 1, 2, 0, 0, 0)
	p := []api.Tint{{At: 0, Blue: 200}, {At: 2, Red: 100}}
	text, e := export.Picture(f, p, [3]int{})
	wantText(t, "Picture", text, e, "P3\n3 3\n255\n0 0 200 0 0 200 0 0 200\n0 0 200 50 0 100 100 0 0\n0 0 200 0 0 200 0 0 200\n")
	// The ground rises by 1 to the east, so that light from above falls on it by the root of 0.5.
	text, e = export.Picture(f, p, [3]int{0, 0, 7})
	wantText(t, "Picture", text, e, "P3\n1 1\n255\n35 0 71\n")
	text, e = export.Picture(f, p, [3]int{1, 0, 0})
	wantText(t, "Picture", text, e, "P3\n1 1\n255\n0 0 0\n")
	text, e = export.Picture(row(1), p, [3]int{})
	wantText(t, "Picture", text, e, "P3\n1 1\n255\n50 0 100\n")
	// A slope that faces the light is as bright as it can be.
	text, e = export.Picture(f, []api.Tint{{Red: 255, Green: 254, Blue: 1}}, [3]int{-1, 0, 1})
	wantText(t, "Picture", text, e, "P3\n1 1\n255\n255 254 1\n")
}

// P238: colors that are dimmed to nearly halves are rounded as the others.
func TestDimmedColors(t *testing.T) {
	n := &numbers{state: 44}
	f := of(0, 0, 3, 3, 0, 0.5, 0, 0.25, 1, 2, 0, 3, 0)
	near := 0
	for range 40000 {
		light := [3]int{n.between(-1000, 1000), n.between(-1000, 1000), n.between(1, 1000)}
		lit, e := shape.Shade(f, light[0], light[1], light[2])
		wantError(t, "Shade", e, api.OK)
		for c := 1; c < 256; c++ {
			dim := float64(c) * float64(lit.V[0])
			if off := dim - math.Floor(dim) - 0.5; math.Abs(off) > 2e-5 {
				continue
			}
			near++
			p := []api.Tint{{Red: c, Green: 255 - c, Blue: c}}
			text, e := export.Picture(f, p, light)
			wantText(t, "Picture", text, e, pictureOf(f, p, light))
		}
	}
	if near < 50 {
		t.Error("too few colors are nearly halves:", near)
	}
}

// P238: the errors of light.
func TestPictureErrors(t *testing.T) {
	p := []api.Tint{{Red: 9}}
	for _, r := range []api.Region{region(0, 0, 2, 3), region(0, 0, 3, 2), region(0, 0, 1, 1), region(0, 0, 512, 1)} {
		for _, light := range [][3]int{{1, 0, 0}, {0, 0, 1}, {1001, 0, 0}, {0, math.MinInt, 0}} {
			text, e := export.Picture(flat(r, 5), p, light)
			wantNothing(t, "Picture", text != "", e, api.ErrEmpty)
		}
		text, e := export.Picture(flat(r, 5), p, [3]int{})
		wantText(t, "Picture", text, e, pictureOf(flat(r, 5), p, [3]int{}))
	}
	for i := range 3 {
		for _, n := range outside(-1000, 1000) {
			var light [3]int
			light[i] = n
			text, e := export.Picture(flat(region(0, 0, 3, 3), 5), p, light)
			wantNothing(t, "Picture", text != "", e, api.ErrRange)
		}
	}
}
