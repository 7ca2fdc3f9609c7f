package field_test

import (
	"math"
	"slices"
	"testing"

	"tarnfell/api"
	"tarnfell/field"
)

var (
	wildInts    = []int{0, 1, -1, 2, 17, 512, 1 << 22, 1 << 31, -1 << 32, 1<<32 + 1, 1 << 62, math.MaxInt, math.MinInt, math.MinInt + 1}
	wildSingles = []float32{0, minusZero, 1, -0.5, tiny, top, beyond, 1e30, -1e38, math.MaxFloat32, inf, -inf, nan}
)

func wildRegions() []api.Region {
	l := []api.Region{{}, region(0, 0, 2, 2)}
	for _, a := range wildInts {
		for _, b := range wildInts {
			l = append(l, region(a, b, 2, 2), region(0, 0, a, b), region(a, a, b, b))
		}
	}
	return l
}

func wildFields() []api.Field {
	l := []api.Field{{}, row(1), of(0, 0, 2, 2, 1, 2, 3, 4), of(1, 1, 3, 3, wildSingles[:9]...)}
	for _, s := range badFields() {
		l = append(l, s.f)
	}
	for _, n := range wildInts {
		l = append(l, of(n, 0, 1, 1, 1), of(0, n, 1, 1, 1), of(0, 0, n, 1, 1), of(0, 0, 1, n, 1), of(0, 0, n, n))
	}
	return l
}

// G1, G3: no function panics, whatever its regions and numbers are; with an error there is no result.
func TestWildRegions(t *testing.T) {
	small := of(0, 0, 2, 2, 1, 2, 3, 4)
	for _, r := range wildRegions() {
		field.CheckRegion(r)
		for _, q := range []api.Region{{}, small.Region, r, region(math.MaxInt, math.MinInt, math.MaxInt, math.MaxInt)} {
			field.Inside(r, q)
			field.Inside(q, r)
			field.Common(r, q)
			field.Common(q, r)
		}
		for _, n := range wildInts {
			if g, e := field.Grow(r, n); e != api.OK && g != (api.Region{}) {
				t.Error("Grow", r, n, g, e)
			}
		}
		for _, h := range wildSingles {
			wantAll(t, "Fill", func() (api.Field, api.Errno) { return field.Fill(r, h) })
		}
		wantAll(t, "Cut", func() (api.Field, api.Errno) { return field.Cut(small, r) })
		wantAll(t, "Resample", func() (api.Field, api.Errno) { return field.Resample(small, r, 1, 2) })
	}
}

// wantAll wants either an error or a field that is right.
func wantAll(t *testing.T, name string, make func() (api.Field, api.Errno)) {
	t.Helper()
	f, e := make()
	if e != api.OK {
		wantNoField(t, name, f, e, e)
	} else if e := field.Check(f); e != api.OK {
		t.Errorf("%s: the result has the error %d", name, e)
	}
}

// G1, G3, G7: no function panics, whatever its fields are.
func TestWildFields(t *testing.T) {
	l := wildFields()
	for _, a := range l {
		for _, g := range tellers() {
			if zero, e := g.tell(a); e != api.OK && !zero {
				t.Error(g.name, a, e)
			}
		}
		for _, b := range l {
			field.Same(a, b)
			for _, m := range makers() {
				wantAll(t, m.name, func() (api.Field, api.Errno) { return m.make([]api.Field{a, b, a}) })
			}
		}
	}
}

// G1, G3, G7: no function panics, whatever its other arguments are.
func TestWildArguments(t *testing.T) {
	f := of(0, 0, 3, 3, 1, 2, 3, 4, 5, 6, 7, 8, 9)
	for _, a := range wildInts {
		wantAll(t, "Combine", func() (api.Field, api.Errno) { return field.Combine(a, f, f) })
		wantAll(t, "Blur", func() (api.Field, api.Errno) { return field.Blur(f, a) })
		wantAll(t, "Kernel", func() (api.Field, api.Errno) { return field.Kernel(f, nil, a) })
		wantAll(t, "Kernel", func() (api.Field, api.Errno) { return field.Kernel(f, wildSingles, a) })
		field.Sum(f, a)
		field.Rank(f, a)
		for _, b := range wildInts {
			wantAll(t, "Resample", func() (api.Field, api.Errno) { return field.Resample(f, f.Region, a, b) })
			field.At(f, a, b)
		}
	}
	for _, x := range wildSingles {
		field.Number(x)
		wantAll(t, "Kernel", func() (api.Field, api.Errno) { return field.Kernel(f, []float32{x}, 1) })
		for _, y := range wildSingles {
			wantAll(t, "Scale", func() (api.Field, api.Errno) { return field.Scale(f, x, y) })
			wantAll(t, "Clamp", func() (api.Field, api.Errno) { return field.Clamp(f, x, y) })
			field.Bilinear(f, x, y)
			for _, n := range wildInts {
				field.Histogram(f, x, y, n)
			}
		}
	}
}

// G1, G4: texts are any bytes.
func TestWildTexts(t *testing.T) {
	n := &numbers{state: 17}
	signs := "0123456789  \n\n.e+-field\x00\xff\xc3"
	for range 20000 {
		text := []byte("field 0 0 2 2\n1 2\n3 4\n")
		for range 1 + n.below(4) {
			at := n.below(len(text))
			switch n.below(3) {
			case 0:
				text[at] = signs[n.below(len(signs))]
			case 1:
				text = slices.Insert(text, at, signs[n.below(len(signs))])
			case 2:
				text = slices.Delete(text, at, at+1)
			}
		}
		f, line, e := field.Parse(string(text))
		if e != api.OK {
			wantNoField(t, "Parse", f, e, e)
			if line < 0 || line > 513 || line != 0 && e != api.ErrSyntax && e != api.ErrRange {
				t.Errorf("Parse of %q: line %d, error %d", text, line, e)
			}
			continue
		}
		printed, e := field.Print(f)
		g, _, e2 := field.Parse(printed)
		if line != 0 || e != api.OK || e2 != api.OK || !field.Same(f, g) {
			t.Errorf("Parse of %q: %v, line %d, %q", text, f, line, printed)
		}
		field.ParseNumber(string(text[n.below(len(text)):]))
	}
}

// roomy is a field with unused capacity, and all that it has, to be looked at later.
func roomy(f api.Field) (api.Field, []float32) {
	all := append(slices.Clone(f.V), 91, 92, 93, 94, 95, 96, 97, 98, 99)
	f.V = all[:len(f.V)]
	return f, all
}

// G2: arguments are neither modified nor retained, results share no memory, and calls leave no state.
func TestFieldsAreLeftAlone(t *testing.T) {
	n := &numbers{state: 18}
	for _, m := range makers() {
		r := region(2, -3, 4, 5)
		var l []api.Field
		var all, before [][]float32
		for range m.in {
			f, whole := roomy(n.field(r, func() float32 { return float32(n.below(1000)+1) / 1000 }))
			l, all, before = append(l, f), append(all, whole), append(before, slices.Clone(whole))
		}
		first, e := m.make(l)
		if e != api.OK {
			t.Fatal(m.name, e)
		}
		kept := api.Field{Region: first.Region, V: slices.Clone(first.V)}
		second, e := m.make(l)
		wantField(t, m.name+" once more", second, e, kept)
		scribble(first.V)
		wantField(t, m.name+" beside another result", second, e, kept)
		for i := range all {
			if !slices.Equal(all[i], before[i]) {
				t.Errorf("%s changes its field %d", m.name, i)
			}
		}
		for i := range all {
			scribble(all[i])
		}
		wantField(t, m.name+" with other arguments afterwards", second, e, kept)
	}
}

func scribble(v []float32) {
	v = v[:cap(v)]
	for i := range v {
		v[i] = -12345
	}
}

// G2: what is told of a field, and read of a text, leaves it alone as well.
func TestTellersLeaveFieldsAlone(t *testing.T) {
	f, all := roomy(of(1, 1, 3, 2, 5, -1, minusZero, 0, 7, 0.5))
	before := slices.Clone(all)
	for _, g := range tellers() {
		zero, e := g.tell(f)
		again, e2 := g.tell(f)
		if e != api.OK || e2 != e || zero != again {
			t.Error(g.name, e, e2)
		}
	}
	for n := range f.V {
		field.Rank(f, n)
	}
	k, weights := roomy(of(0, 0, 1, 1, 2))
	kept := slices.Clone(weights)
	field.Kernel(f, k.V, 1)
	if !slices.Equal(all, before) || !slices.Equal(weights, kept) {
		t.Error("an argument is changed", all, weights)
	}
	a, _ := field.Histogram(f, 0, 1, 4)
	b, _ := field.Histogram(f, 0, 1, 4)
	a[0], a[1] = 77, 78
	if !slices.Equal(b, []int{4, 0, 0, 2}) {
		t.Error("Histogram shares its results", b)
	}
	text := "field 0 0 2 1\n1 2\n"
	g, _, _ := field.Parse(text)
	h, _, e := field.Parse(text)
	scribble(g.V)
	wantField(t, "Parse", h, e, row(1, 2))
	g, _ = field.Fill(region(0, 0, 2, 1), 3)
	h, e = field.Fill(region(0, 0, 2, 1), 3)
	scribble(g.V)
	wantField(t, "Fill", h, e, row(3, 3))
}

// G3: an argument that is nil is the same as one that is empty.
func TestNilAndEmpty(t *testing.T) {
	for _, v := range [][]float32{nil, {}} {
		f, e := field.Kernel(row(1), v, 1)
		wantNoField(t, "Kernel", f, e, api.ErrForm)
		if e := field.Check(api.Field{Region: region(0, 0, 1, 1), V: v}); e != api.ErrForm {
			t.Error("Check", e)
		}
	}
}

// G5, P1: the greatest fields can be handled by all functions.
func TestGreatestFields(t *testing.T) {
	n := &numbers{state: 19}
	for _, r := range []api.Region{region(-api.MaxPlace, -api.MaxPlace, 512, 128), region(api.MaxPlace-128, api.MaxPlace-512, 128, 512), region(0, 0, 256, 256)} {
		f := n.field(r, func() float32 { return float32(n.below(1000)+1) / 1000 })
		for _, m := range makers() {
			g, e := m.make([]api.Field{f, f, f})
			if e != api.OK || g.Region != r {
				t.Error(m.name, g.Region, e)
			}
		}
		for _, g := range tellers() {
			if _, e := g.tell(f); e != api.OK {
				t.Error(g.name, e)
			}
		}
		g, e := field.Blur(f, api.MaxRadius)
		if e != api.OK || g.Region != region(r.X+16, r.Y+16, r.W-32, r.H-32) {
			t.Error("Blur", g.Region, e)
		}
	}
}
