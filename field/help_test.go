package field_test

import (
	"math"
	"slices"
	"testing"

	"tarnfell/api"
	"tarnfell/field"
)

var (
	nan       = float32(math.NaN())
	inf       = float32(math.Inf(1))
	minusZero = float32(math.Copysign(0, -1))
)

const (
	top    = float32(api.MaxHeight)
	beyond = top + 0.125 // the least single above all heights
	tiny   = float32(math.SmallestNonzeroFloat32)
)

func region(x, y, w, h int) api.Region { return api.Region{X: x, Y: y, W: w, H: h} }

func of(x, y, w, h int, v ...float32) api.Field {
	return api.Field{Region: region(x, y, w, h), V: v}
}

// row is a field of one row at the place (0, 0).
func row(v ...float32) api.Field { return of(0, 0, len(v), 1, v...) }

func bitsOf(values []float32) []uint32 {
	var bits []uint32
	for _, v := range values {
		bits = append(bits, math.Float32bits(v))
	}
	return bits
}

func sameBits(a, b float32) bool { return math.Float32bits(a) == math.Float32bits(b) }

func wantField(t *testing.T, name string, f api.Field, e api.Errno, want api.Field) {
	t.Helper()
	if e != api.OK || f.Region != want.Region || !slices.Equal(bitsOf(f.V), bitsOf(want.V)) {
		t.Errorf("%s: got %v %v, error %d; want %v %v", name, f.Region, f.V, e, want.Region, want.V)
	}
}

func wantNoField(t *testing.T, name string, f api.Field, e, want api.Errno) {
	t.Helper()
	if e != want || f.Region != (api.Region{}) || len(f.V) != 0 {
		t.Errorf("%s: got %v %v, error %d; want error %d", name, f.Region, f.V, e, want)
	}
}

func wantSingle(t *testing.T, name string, v float32, e api.Errno, want float32) {
	t.Helper()
	if e != api.OK || !sameBits(v, want) {
		t.Errorf("%s: got %v, error %d; want %v", name, v, e, want)
	}
}

func wantNoSingle(t *testing.T, name string, v float32, e, want api.Errno) {
	t.Helper()
	if e != want || !sameBits(v, 0) {
		t.Errorf("%s: got %v, error %d; want error %d", name, v, e, want)
	}
}

// numbers is a sequence that is the same in every run.
type numbers struct{ state uint64 }

func (n *numbers) next() uint32 {
	n.state = n.state*6364136223846793005 + 1442695040888963407
	return uint32(n.state >> 32)
}

func (n *numbers) below(most int) int { return int(n.next()) % most }

// single is from -1 to 1.
func (n *numbers) single() float32 { return float32(int32(n.next())) / (1 << 31) }

// height has any magnitude that heights have, and any sign.
func (n *numbers) height() float32 {
	for {
		if v := math.Float32frombits(n.next()); v >= -top && v <= top {
			return v
		}
	}
}

func (n *numbers) field(r api.Region, value func() float32) api.Field {
	v := make([]float32, r.W*r.H)
	for i := range v {
		v[i] = value()
	}
	return api.Field{Region: r, V: v}
}

// times, plus, minus and over round an operation to a single at once, by way of a double: this never rounds twice, and nothing can be fused.
func times(a, b float32) float32 { return float32(float64(a) * float64(b)) }
func plus(a, b float32) float32  { return float32(float64(a) + float64(b)) }
func minus(a, b float32) float32 { return float32(float64(a) - float64(b)) }
func over(a, b float32) float32  { return float32(float64(a) / float64(b)) }

func down(v float32) float32 { return float32(math.Floor(float64(v))) }

// badField is a field with what field.Check says of it.
type badField struct {
	name string
	f    api.Field
	want api.Errno
}

func badFields() []badField {
	return []badField{
		{"no width", of(0, 0, 0, 1), api.ErrRange},
		{"too many cells", of(0, 0, 512, 129), api.ErrLarge},
		{"no place", of(api.MaxPlace, 0, 1, 1, 1), api.ErrPlace},
		{"a region ahead of a NaN", of(0, -api.MaxPlace-1, 1, 1, nan), api.ErrPlace},
		{"no values", of(0, 0, 2, 2), api.ErrForm},
		{"too few values", of(0, 0, 2, 2, 1, 2, 3), api.ErrForm},
		{"too many values", of(0, 0, 2, 2, 1, 2, 3, 4, 5), api.ErrForm},
		{"a NaN", of(0, 0, 2, 1, 1, nan), api.ErrForm},
		{"an infinity", of(0, 0, 2, 1, inf, 1), api.ErrForm},
		{"an infinity below", of(0, 0, 2, 1, -inf, 1), api.ErrForm},
		{"a NaN behind what is no height", of(0, 0, 2, 1, beyond, nan), api.ErrForm},
		{"no height", of(0, 0, 2, 1, 1, beyond), api.ErrRange},
		{"no height below", of(0, 0, 2, 1, -beyond, 1), api.ErrRange},
		{"the greatest single", of(0, 0, 1, 1, math.MaxFloat32), api.ErrRange},
	}
}

// maker is a function that makes a field of fields, with right other arguments.
type maker struct {
	name string
	in   int
	make func(l []api.Field) (api.Field, api.Errno)
}

func makers() []maker {
	l := []maker{
		{"Cut", 1, func(l []api.Field) (api.Field, api.Errno) { return field.Cut(l[0], l[0].Region) }},
		{"Paste", 2, func(l []api.Field) (api.Field, api.Errno) { return field.Paste(l[0], l[1]) }},
		{"Scale", 1, func(l []api.Field) (api.Field, api.Errno) { return field.Scale(l[0], 1, 0) }},
		{"Clamp", 1, func(l []api.Field) (api.Field, api.Errno) { return field.Clamp(l[0], -top, top) }},
		{"Blend", 3, func(l []api.Field) (api.Field, api.Errno) { return field.Blend(l[0], l[1], l[2]) }},
		{"Resample", 1, func(l []api.Field) (api.Field, api.Errno) { return field.Resample(l[0], l[0].Region, 1, 1) }},
		{"Kernel", 1, func(l []api.Field) (api.Field, api.Errno) { return field.Kernel(l[0], []float32{1}, 1) }},
		{"Blur", 1, func(l []api.Field) (api.Field, api.Errno) { return field.Blur(l[0], 0) }},
	}
	for op := api.OpAdd; op <= api.OpOver; op++ {
		l = append(l, maker{"Combine", 2, func(l []api.Field) (api.Field, api.Errno) { return field.Combine(op, l[0], l[1]) }})
	}
	return l
}

// teller is a function that tells something of a field; it returns whether that is zero.
type teller struct {
	name string
	tell func(f api.Field) (bool, api.Errno)
}

func tellers() []teller {
	single := func(v float32, e api.Errno) (bool, api.Errno) { return sameBits(v, 0), e }
	return []teller{
		{"Check", func(f api.Field) (bool, api.Errno) { return true, field.Check(f) }},
		{"At", func(f api.Field) (bool, api.Errno) { return single(field.At(f, f.X, f.Y)) }},
		{"Sum", func(f api.Field) (bool, api.Errno) { return single(field.Sum(f, api.SumRows)) }},
		{"Sum", func(f api.Field) (bool, api.Errno) { return single(field.Sum(f, api.SumPairs)) }},
		{"Sum", func(f api.Field) (bool, api.Errno) { return single(field.Sum(f, api.SumKept)) }},
		{"Mean", func(f api.Field) (bool, api.Errno) { return single(field.Mean(f)) }},
		{"Range", func(f api.Field) (bool, api.Errno) {
			low, high, e := field.Range(f)
			return sameBits(low, 0) && sameBits(high, 0), e
		}},
		{"Rank", func(f api.Field) (bool, api.Errno) { return single(field.Rank(f, 0)) }},
		{"Histogram", func(f api.Field) (bool, api.Errno) {
			l, e := field.Histogram(f, 0, 1, 3)
			return len(l) == 0, e
		}},
		{"Bilinear", func(f api.Field) (bool, api.Errno) {
			return single(field.Bilinear(f, float32(f.X), float32(f.Y)))
		}},
		{"Print", func(f api.Field) (bool, api.Errno) {
			s, e := field.Print(f)
			return s == "", e
		}},
	}
}
