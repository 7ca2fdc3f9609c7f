package export_test

import (
	"math"
	"slices"
	"strings"
	"testing"

	"tarnfell/api"
	"tarnfell/export"
)

var formats = []int{api.FormatFull, api.FormatHalf, api.FormatShort, api.FormatLevels, api.FormatDeltas}

// scaleFor is what a format needs to be right.
func scaleFor(format int, s api.Scaling) api.Scaling {
	if format < api.FormatLevels {
		return api.Scaling{}
	}
	return s
}

// wantFile wants a field to be written, read and told of as the document says, or to have ErrRange.
func wantFile(t *testing.T, f api.Field, format int, s api.Scaling) bool {
	t.Helper()
	want, back, right := fileOf(f, format, s)
	text, e := export.Encode(f, format, s)
	lost, e2 := export.Loss(f, format, s)
	if !right {
		wantNothing(t, "Encode", text != "", e, api.ErrRange)
		wantNothing(t, "Loss", lost != api.Lost{}, e2, api.ErrRange)
		return false
	}
	wantText(t, "Encode", text, e, want)
	if wantLost := lostOf(f, back, len(want)); e2 != api.OK || lost != wantLost {
		t.Errorf("Loss in the format %d: %v, error %d; want %v", format, lost, e2, wantLost)
	}
	g, e := export.Decode(want)
	wantField(t, "Decode", g, e, back)
	return true
}

// P232, P233, P234: files of all formats and of fields of all kinds.
func TestFiles(t *testing.T) {
	n := &numbers{state: 30}
	written := map[int]int{}
	for _, r := range regions() {
		for range 4 {
			for _, f := range n.fields(r) {
				for _, format := range formats {
					scales := []api.Scaling{{}}
					if format >= api.FormatLevels {
						scales = []api.Scaling{n.scale()}
						if s, e := export.Fit(f, n.between(1, 24)); e == api.OK {
							scales = append(scales, s)
						}
					}
					for _, s := range scales {
						if wantFile(t, f, format, s) {
							written[format]++
						}
					}
				}
			}
		}
	}
	for _, format := range formats {
		if written[format] < 100 {
			t.Error("too few files of the format", format, written[format])
		}
	}
}

// P232, P233: files by hand.
func TestKnownFiles(t *testing.T) {
	f := of(-1, 258, 3, 1, 10, 11, 13.5)
	head := "\xff\xff\xff\xff\x00\x00\x01\x02\x00\x00\x00\x03\x00\x00\x00\x01"
	s := api.Scaling{Low: 10, Step: 0.5, Bits: 3}
	scale := "\x41\x20\x00\x00\x3f\x00\x00\x00\x03"
	for format, values := range map[int]string{
		api.FormatFull:   "\x41\x20\x00\x00\x41\x30\x00\x00\x41\x58\x00\x00",
		api.FormatHalf:   "\x49\x00\x49\x80\x4a\xc0",
		api.FormatShort:  "\x41\x20\x41\x30\x41\x58",
		api.FormatLevels: scale + "\x0b\x80",
		api.FormatDeltas: scale + "\x00\x04\x0a",
	} {
		want := signed("TARN" + string(rune(format)) + head + values)
		text, e := export.Encode(f, format, scaleFor(format, s))
		wantText(t, "Encode", text, e, want)
		g, e := export.Decode(want)
		wantField(t, "Decode", g, e, f)
		lost, e := export.Loss(f, format, scaleFor(format, s))
		if want := (api.Lost{Cell: at(-1, 258), Exact: 3, Bytes: len(want)}); lost != want || e != api.OK {
			t.Errorf("Loss: %v, error %d; want %v", lost, e, want)
		}
	}
	f = of(5, 6, 2, 2, 1, 1+0x1p-11, 1-0x1p-12, minusZero)
	lost, e := export.Loss(f, api.FormatHalf, api.Scaling{Low: minusZero})
	if want := (api.Lost{Worst: 0x1p-11, Cell: at(6, 6), Exact: 2, Bytes: 33}); lost != want || e != api.OK {
		t.Errorf("Loss: %v, error %d; want %v", lost, e, want)
	}
	// Of equal losses the first one is told; a 0 that comes back as another one is not the same.
	lost, e = export.Loss(of(5, 6, 2, 2, minusZero, 1.25, 0.75, 3), api.FormatLevels, api.Scaling{Step: 1, Bits: 2})
	if want := (api.Lost{Worst: 0.25, Cell: at(6, 6), Exact: 1, Bytes: 35}); lost != want || e != api.OK {
		t.Errorf("Loss: %v, error %d; want %v", lost, e, want)
	}
}

// P232: the greatest fields, and those of one cell.
func TestGreatestFiles(t *testing.T) {
	n := &numbers{state: 31}
	for _, r := range []api.Region{region(-edge, -edge, 512, 128), region(edge-256, edge-256, 256, 256), region(0, 0, 1, 1)} {
		f := n.field(r, func() float32 { return n.single() * 1000 })
		for _, format := range formats {
			for _, bits := range []int{1, 7, 13, 24} {
				s, _ := export.Fit(f, bits)
				text, e := export.Encode(f, format, scaleFor(format, s))
				if e != api.OK {
					continue
				}
				g, e := export.Decode(text)
				if e != api.OK || g.Region != r || format == api.FormatFull && !sameField(f, g) {
					t.Error("Decode", format, bits, g.Region, e)
				}
			}
		}
	}
}

// P232, P234: the errors of Encode and of Loss, and their order.
func TestEncodeErrors(t *testing.T) {
	wantBad := func(f api.Field, format int, s api.Scaling, want api.Errno) {
		t.Helper()
		text, e := export.Encode(f, format, s)
		wantNothing(t, "Encode", text != "", e, want)
		lost, e := export.Loss(f, format, s)
		wantNothing(t, "Loss", lost != api.Lost{}, e, want)
	}
	bad := api.Scaling{Low: nan, Step: -1, Bits: 99}
	others := append(outside(1, 5), 0, 256+1, 1<<32+1)
	for _, f := range badFields() {
		for _, format := range append(slices.Clone(others), formats...) {
			wantBad(f.f, format, bad, f.want)
			wantBad(f.f, format, api.Scaling{}, f.want)
		}
	}
	far := row(1, top, -top)
	for _, format := range others {
		wantBad(far, format, bad, api.ErrKind)
		wantBad(far, format, api.Scaling{}, api.ErrKind)
		wantBad(far, format, api.Scaling{Step: 1, Bits: 4}, api.ErrKind)
	}
	for _, format := range []int{api.FormatFull, api.FormatHalf, api.FormatShort} {
		for _, s := range []api.Scaling{bad, {Low: 1}, {Low: nan}, {Step: tiny}, {Bits: 1}, {Bits: -1}, {Step: 1, Bits: 8}, {Low: beyond}} {
			wantBad(far, format, s, api.ErrForm)
		}
	}
	for _, format := range []int{api.FormatLevels, api.FormatDeltas} {
		for _, s := range badScales() {
			wantBad(far, format, s.s, s.want)
		}
		wantBad(far, format, api.Scaling{}, api.ErrRange)
		wantBad(row(0, 1, 4), format, api.Scaling{Step: 1, Bits: 2}, api.ErrRange)
		wantBad(row(0, -1, 3), format, api.Scaling{Step: 1, Bits: 2}, api.ErrRange)
		wantBad(row(-0.5, 3.5), format, api.Scaling{Step: 1, Bits: 2}, api.ErrRange)
		wantFile(t, row(-0.5, 3.4999998), format, api.Scaling{Step: 1, Bits: 2})
		// The nearest level of the greatest height is none.
		wantBad(row(1, top), format, api.Scaling{Low: 1, Step: top - 0.5, Bits: 2}, api.ErrRange)
		wantFile(t, row(1, top), format, api.Scaling{Low: 1, Step: top - 1, Bits: 2})
	}
	wantBad(row(1, 65520), api.FormatHalf, api.Scaling{}, api.ErrRange)
	wantBad(row(-65520, 1), api.FormatHalf, api.Scaling{}, api.ErrRange)
	wantFile(t, row(before(65520), after(-65520)), api.FormatHalf, api.Scaling{})
	wantFile(t, row(top, -top, before(top), after(-top)), api.FormatShort, api.Scaling{})
}

// encoded is a file that is right.
func encoded(t *testing.T, f api.Field, format int, s api.Scaling) string {
	t.Helper()
	text, e := export.Encode(f, format, s)
	wantError(t, "Encode", e, api.OK)
	return text
}

func wantBadFile(t *testing.T, text string, want api.Errno) {
	t.Helper()
	f, e := export.Decode(text)
	if isSome(f) || e != want {
		t.Errorf("Decode of %.60q (%d bytes): %v, error %d; want %d", text, len(text), f, e, want)
	}
}

// P233: the errors of Decode ahead of the values, and their order.
func TestDecodeErrors(t *testing.T) {
	file := encoded(t, row(1, 2), api.FormatFull, api.Scaling{})
	wantBadFile(t, strings.Repeat("x", api.MaxText+1), api.ErrLarge)
	wantBadFile(t, file+strings.Repeat("x", api.MaxText), api.ErrLarge)
	wantBadFile(t, file+strings.Repeat("x", api.MaxText-len(file)), api.ErrSum)
	wantBadFile(t, signed(file[:len(file)-4]+strings.Repeat("x", api.MaxText-len(file))), api.ErrForm)
	for many := range 25 {
		wantBadFile(t, file[:many], api.ErrSyntax)
		wantBadFile(t, signed(file[:max(0, many-4)]), api.ErrSyntax)
	}
	wantBadFile(t, file[:25], api.ErrSum)
	for i := range 4 {
		wantBadFile(t, signed(file[:i]+"x"+file[i+1:len(file)-4]), api.ErrSyntax)
		wantBadFile(t, file[:i]+"x"+file[i+1:], api.ErrSyntax)
	}
	for i := 4; i < len(file); i++ {
		wantBadFile(t, file[:i]+string([]byte{file[i] ^ 1})+file[i+1:], api.ErrSum)
	}
	wantBadFile(t, file+"x", api.ErrSum)
	for format := range 256 {
		text := "TARN" + string([]byte{byte(format)})
		wantBadFile(t, text+headOf(1, api.Region{})[5:]+"\x00\x00\x00\x00", api.ErrSum)
		want := api.ErrKind
		if format >= 1 && format <= 5 {
			want = api.ErrRange
		}
		wantBadFile(t, signed(text+headOf(1, api.Region{})[5:]), want)
	}
	for _, format := range formats {
		for _, s := range badRegions() {
			r := s.r
			for _, n := range []*int{&r.X, &r.Y} {
				*n = min(max(*n, -1<<31), 1<<31-1)
			}
			wantBadFile(t, signed(headOf(format, r)+"x"), s.want)
		}
		for _, r := range []api.Region{region(-1<<31, 0, 2, 1), region(0, -1<<31, 2, 1), region(1<<31-1, 0, 2, 1), region(edge-1, 0, 2, 1), region(0, edge, 2, 1)} {
			wantBadFile(t, signed(headOf(format, r)), api.ErrPlace)
		}
		wantBadFile(t, signed(headOf(format, region(0, 0, -1, 1))), api.ErrRange)
		wantBadFile(t, signed(headOf(format, region(0, 0, 1, -1))), api.ErrRange)
		wantBadFile(t, signed(headOf(format, region(0, 0, 1<<31, 1))), api.ErrRange)
	}
}

// P233: files with scalings that are wrong, or that are not whole.
func TestDecodeScales(t *testing.T) {
	for _, format := range []int{api.FormatLevels, api.FormatDeltas} {
		head := headOf(format, region(0, 0, 1, 1))
		for _, s := range badScales() {
			if s.s.Bits < 0 || s.s.Bits > 255 {
				continue
			}
			wantBadFile(t, signed(head+scaleOf(s.s)), s.want)
			wantBadFile(t, signed(head+scaleOf(s.s)+"\x00"), s.want)
			wantBadFile(t, signed(head+scaleOf(s.s)+"\xff\xff\xff\xff"), s.want)
		}
		for many := range 9 {
			wantBadFile(t, signed(head+scaleOf(api.Scaling{Low: nan, Step: -1, Bits: 99})[:many]), api.ErrForm)
			wantBadFile(t, signed(head+scaleOf(api.Scaling{Step: 1, Bits: 8})[:many]), api.ErrForm)
		}
		wantBadFile(t, signed(head+scaleOf(api.Scaling{Step: 1, Bits: 8})), api.ErrForm)
		f, e := export.Decode(signed(head + scaleOf(api.Scaling{Low: 5, Step: 1, Bits: 8}) + "\x00"))
		wantField(t, "Decode", f, e, row(5))
	}
}

// P233: files with too few or too many bytes.
func TestDecodeLengths(t *testing.T) {
	f := row(1, 2, 0, 1, 2, 3, 0)
	for _, format := range formats {
		for bits := 2; bits <= 24; bits++ {
			file := encoded(t, f, format, scaleFor(format, api.Scaling{Step: 1, Bits: bits}))
			text := file[:len(file)-4]
			for many := len("TARN") + 17; many < len(text); many++ {
				wantBadFile(t, signed(text[:many]), api.ErrForm)
			}
			for _, more := range []string{"\x00", "\x00\x00", "\x01", "\x80", "\xff", strings.Repeat("\x00", 40)} {
				wantBadFile(t, signed(text+more), api.ErrForm)
			}
			g, e := export.Decode(file)
			wantField(t, "Decode", g, e, f)
		}
	}
}

// P233: levels that are not packed as Pack does, that are beyond their bounds, and bits behind the last one.
func TestDecodeLevels(t *testing.T) {
	deltas := func(many, bits int, packed string) string {
		return signed(headOf(api.FormatDeltas, region(0, 0, many, 1)) + scaleOf(api.Scaling{Step: 1, Bits: bits}) + packed)
	}
	wide := strings.Repeat("\xff", 8)
	for _, packed := range []string{
		"\x80\x00\x02\x02", "\x02\x80\x00\x02", "\x02\x02\x80", "\x02\x02\x82\x00", wide + "\x7f\x02\x02", wide + "\xff\x01\x02\x02",
		packedOf([]int{-1, 1, 1}), packedOf([]int{1, -2, 1}), packedOf([]int{1, 1, -3}), packedOf([]int{8, -1, -1}), packedOf([]int{1, 7, 0}), packedOf([]int{7, -7, 8}),
		packedOf([]int{1 << 40, -1 << 40, 0}), packedOf([]int{1 << 41, 0, 0}), packedOf([]int{1, 1}), packedOf([]int{1, 1, 1, 1}), packedOf([]int{1, 1, 1, 0}), packedOf([]int{1 << 62, 1 << 62, 2}),
	} {
		wantBadFile(t, deltas(3, 3, packed), api.ErrForm)
	}
	f, e := export.Decode(deltas(3, 3, packedOf([]int{7, -7, 7})))
	wantField(t, "Decode", f, e, row(7, 0, 7))
	f, e = export.Decode(deltas(2, 24, packedOf([]int{1<<20 - 1, 1})))
	wantField(t, "Decode", f, e, row(top-1, top))
	wantBadFile(t, deltas(2, 24, packedOf([]int{1 << 20, 1})), api.ErrRange)
	wantBadFile(t, deltas(2, 24, packedOf([]int{1<<24 - 1, 1})), api.ErrForm)
	for bits := 1; bits <= 24; bits++ {
		for many := 1; many <= 9; many++ {
			head := headOf(api.FormatLevels, region(0, 0, many, 1)) + scaleOf(api.Scaling{Step: 0x1p-6, Bits: bits})
			zeros := make([]byte, (many*bits+7)/8)
			f, e := export.Decode(signed(head + string(zeros)))
			wantField(t, "Decode", f, e, flat(region(0, 0, many, 1), 0))
			for bit := many * bits; bit < 8*len(zeros); bit++ {
				zeros[bit/8] = 1 << (7 - bit%8)
				wantBadFile(t, signed(head+string(zeros)), api.ErrForm)
			}
		}
	}
}

// P233: the errors of the field that is read come last; a NaN ahead of what is no height.
func TestDecodeValues(t *testing.T) {
	file := func(format, many int, values string) string {
		return signed(headOf(format, region(0, 0, many, 1)) + values)
	}
	for _, c := range []struct {
		format int
		values string
		want   api.Errno
	}{
		{api.FormatFull, "\x7f\x80\x00\x00\x00\x00\x00\x00", api.ErrForm}, {api.FormatFull, "\x49\x80\x00\x01\xff\xc0\x00\x01", api.ErrForm}, {api.FormatFull, "\x49\x80\x00\x01\x00\x00\x00\x00", api.ErrRange},
		{api.FormatFull, "\x00\x00\x00\x00\xc9\x80\x00\x01", api.ErrRange}, {api.FormatHalf, "\x7c\x00\x00\x00", api.ErrForm}, {api.FormatHalf, "\x00\x00\xfc\x00", api.ErrForm}, {api.FormatHalf, "\x00\x00\x7e\x00", api.ErrForm},
		{api.FormatHalf, "\x00\x00\xff\xff", api.ErrForm}, {api.FormatShort, "\x7f\x80\x00\x00", api.ErrForm}, {api.FormatShort, "\x49\x81\x7f\xc0", api.ErrForm}, {api.FormatShort, "\x49\x81\x00\x00", api.ErrRange}, {api.FormatShort, "\x00\x00\xc9\x81", api.ErrRange},
		{api.FormatLevels, scaleOf(api.Scaling{Low: top, Step: 1, Bits: 4}) + "\x01", api.ErrRange}, {api.FormatDeltas, scaleOf(api.Scaling{Low: top, Step: 1, Bits: 4}) + "\x00\x02", api.ErrRange},
	} {
		wantBadFile(t, file(c.format, 2, c.values), c.want)
	}
	f, e := export.Decode(file(api.FormatFull, 2, "\x49\x80\x00\x00\x80\x00\x00\x00"))
	wantField(t, "Decode", f, e, row(top, minusZero))
	f, e = export.Decode(file(api.FormatHalf, 2, "\xfb\xff\x80\x00"))
	wantField(t, "Decode", f, e, row(-65504, minusZero))
	f, e = export.Decode(file(api.FormatShort, 2, "\xc9\x80\x80\x01"))
	wantField(t, "Decode", f, e, row(-top, math.Float32frombits(0x80010000)))
	f, e = export.Decode(file(api.FormatLevels, 2, scaleOf(api.Scaling{Low: minusZero, Step: 3, Bits: 4})+"\x0f"))
	wantField(t, "Decode", f, e, row(0, 45))
}

// P243: a byte that is changed anywhere is an error, or another field; FormatFull comes back bit by bit.
func TestChangedBytes(t *testing.T) {
	n := &numbers{state: 32}
	for _, format := range formats {
		for range 12 {
			f := n.field(n.region(4), func() float32 { return float32(n.between(0, 7)) })
			file := encoded(t, f, format, scaleFor(format, api.Scaling{Step: 1, Bits: 3}))
			for i := range len(file) {
				for _, flip := range []byte{1, 0x80, 0xff, byte(n.between(1, 255))} {
					g, e := export.Decode(file[:i] + string([]byte{file[i] ^ flip}) + file[i+1:])
					if e == api.OK && sameField(f, g) {
						t.Errorf("the byte %d of %q, with %#x: the same field", i, file, flip)
					}
				}
			}
		}
	}
	for _, r := range regions() {
		for _, f := range n.fields(r) {
			g, e := export.Decode(encoded(t, f, api.FormatFull, api.Scaling{}))
			wantField(t, "Decode", g, e, f)
		}
	}
}

// P234, P290: files in full lose nothing; those in levels and in deltas lose the same, and within the bound that is told.
func TestBoundsOfLosses(t *testing.T) {
	n := &numbers{state: 33}
	told := 0
	for range 300 {
		r := n.region(12)
		for _, f := range n.fields(r) {
			lost, e := export.Loss(f, api.FormatFull, api.Scaling{})
			if want := (api.Lost{Cell: at(r.X, r.Y), Exact: r.W * r.H, Bytes: 25 + 4*r.W*r.H}); lost != want || e != api.OK {
				t.Errorf("Loss in full: %v, error %d; want %v", lost, e, want)
			}
			s := n.scale()
			if fit, e := export.Fit(f, s.Bits); e == api.OK && n.between(0, 3) > 0 {
				s = fit
			}
			lost, e = export.Loss(f, api.FormatLevels, s)
			other, e2 := export.Loss(f, api.FormatDeltas, s)
			other.Bytes = lost.Bytes
			if lost != other || e != e2 {
				t.Errorf("Loss in levels: %v, error %d; in deltas %v, error %d", lost, e, other, e2)
			}
			if e != api.OK {
				continue
			}
			told++
			most := math.Max(math.Abs(float64(s.Low)), float64(s.Step)*math.Ldexp(1, s.Bits))
			for _, v := range f.V {
				most = math.Max(most, math.Abs(float64(v)))
			}
			if float64(lost.Worst) > float64(s.Step)/2+most*0x1p-21 {
				t.Errorf("Loss with %v: %v; at most %v are told", s, lost, float64(s.Step)/2+most*0x1p-21)
			}
		}
	}
	if told < 500 {
		t.Error("too few losses:", told)
	}
}
