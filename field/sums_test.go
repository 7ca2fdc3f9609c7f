package field_test

import (
	"math"
	"math/big"
	"slices"
	"testing"

	"tarnfell/api"
	"tarnfell/field"
)

var orders = []int{api.SumRows, api.SumPairs, api.SumKept}

func sumBy(how int, values []float32) float32 {
	switch how {
	case api.SumRows:
		return sumInOrder(values)
	case api.SumPairs:
		return sumByHalves(values)
	}
	return sumWithRest(values)
}

func sumInOrder(values []float32) float32 {
	s := values[0]
	for _, v := range values[1:] {
		s = plus(s, v)
	}
	return s
}

func sumByHalves(values []float32) float32 {
	n := len(values)
	if n == 1 {
		return values[0]
	}
	return plus(sumByHalves(values[:n/2]), sumByHalves(values[n/2:]))
}

func sumWithRest(values []float32) float32 {
	s, c := float32(0), float32(0)
	for _, v := range values {
		t := minus(v, c)
		u := plus(s, t)
		c = minus(minus(u, s), t)
		s = u
	}
	return s
}

// sumFields have many sizes (also odd ones, which are not halved evenly) and many kinds of values.
func sumFields() []api.Field {
	n := &numbers{state: 7}
	var l []api.Field
	for _, side := range []api.Point{{X: 1, Y: 1}, {X: 2, Y: 1}, {X: 3, Y: 1}, {X: 1, Y: 5}, {X: 7, Y: 1}, {X: 3, Y: 7}, {X: 100, Y: 3}, {X: 37, Y: 41}, {X: 512, Y: 128}} {
		r := region(-3, 5, side.X, side.Y)
		l = append(l, n.field(r, n.height), n.field(r, n.single))
		l = append(l, n.field(r, func() float32 { return float32(math.Abs(float64(n.single()))) * top }))
		l = append(l, n.field(r, func() float32 { return 0.1 }))
	}
	return l
}

// P5, G6: Sum adds in the order that is asked for.
func TestSum(t *testing.T) {
	for _, f := range sumFields() {
		for _, how := range orders {
			v, e := field.Sum(f, how)
			wantSingle(t, "Sum", v, e, sumBy(how, f.V))
		}
	}
	differ := row(top, 0.0625, 0.0625, 0.0625, -top)
	for how, want := range map[int]float32{api.SumRows: 0, api.SumPairs: 0.125, api.SumKept: 0.25} {
		v, e := field.Sum(differ, how)
		wantSingle(t, "Sum", v, e, want)
	}
	// The middle one of three belongs to the second half.
	v, e := field.Sum(row(top, 0.0625, 0.0625), api.SumPairs)
	wantSingle(t, "Sum of three", v, e, top+0.125)
	v, e = field.Sum(row(0.0625, 0.0625, top), api.SumPairs)
	wantSingle(t, "Sum of three", v, e, top)
}

// P5: a sum begins with the first value; SumKept begins with 0.
func TestSumOfZeros(t *testing.T) {
	for how, want := range map[int]float32{api.SumRows: minusZero, api.SumPairs: minusZero, api.SumKept: 0} {
		for _, f := range []api.Field{row(minusZero), row(minusZero, minusZero, minusZero)} {
			v, e := field.Sum(f, how)
			wantSingle(t, "Sum", v, e, want)
		}
	}
}

// P5, G7: sums can be greater than all heights.
func TestSumOfGreatHeights(t *testing.T) {
	f, e := field.Fill(region(0, 0, 512, 128), -top)
	if e != api.OK {
		t.Fatal(e)
	}
	for _, how := range orders {
		v, e := field.Sum(f, how)
		wantSingle(t, "Sum", v, e, -top*65536)
	}
	v, e := field.Mean(f)
	wantSingle(t, "Mean", v, e, -top)
}

// P5: the error of Sum.
func TestSumErrors(t *testing.T) {
	for _, how := range []int{0, 4, -1, math.MaxInt, math.MinInt} {
		v, e := field.Sum(row(1, 2), how)
		wantNoSingle(t, "Sum", v, e, api.ErrKind)
	}
}

func exact(values []float32, magnitude bool) *big.Float {
	sum := new(big.Float).SetPrec(400)
	for _, v := range values {
		x := new(big.Float).SetFloat64(float64(v))
		if magnitude {
			x.Abs(x)
		}
		sum.Add(sum, x)
	}
	return sum
}

// P5: what follows: sums differ from the exact one by no more than the document says.
func TestSumBounds(t *testing.T) {
	for _, f := range sumFields() {
		n, halvings := len(f.V), 0
		for 1<<halvings < n {
			halvings++
		}
		unit := new(big.Float).Quo(exact(f.V, true), big.NewFloat(1<<23))
		for how, times := range map[int]int{api.SumRows: n - 1, api.SumPairs: halvings, api.SumKept: 3} {
			v, e := field.Sum(f, how)
			lost := exact(f.V, false)
			lost.Sub(lost, big.NewFloat(float64(v))).Abs(lost)
			if most := new(big.Float).Mul(unit, big.NewFloat(float64(times))); e != api.OK || lost.Cmp(most) > 0 {
				t.Errorf("Sum in order %d of %d values: %v is lost, more than %v", how, n, lost, most)
			}
		}
	}
}

// P5: Mean is the sum by halves, divided by how many there are.
func TestMean(t *testing.T) {
	for _, f := range sumFields() {
		v, e := field.Mean(f)
		wantSingle(t, "Mean", v, e, over(sumByHalves(f.V), float32(len(f.V))))
	}
	v, e := field.Mean(row(minusZero, minusZero))
	wantSingle(t, "Mean", v, e, minusZero)
	v, e = field.Mean(row(1, 1, 2))
	wantSingle(t, "Mean", v, e, 1.3333334)
}

// P5, G6: Range returns the least and the greatest value, of equal ones the first.
func TestRange(t *testing.T) {
	for _, s := range []struct {
		f         api.Field
		low, high float32
	}{
		{row(5), 5, 5},
		{row(minusZero), minusZero, minusZero},
		{row(0, minusZero), 0, 0},
		{row(minusZero, 0), minusZero, minusZero},
		{row(1, 0, minusZero), 0, 1},
		{row(-1, minusZero, 0), -1, minusZero},
		{of(2, 2, 2, 2, 3, -top, top, 3), -top, top},
		{row(7, 6, 5), 5, 7},
		{row(5, 6, 7), 5, 7},
		{row(-3, -2), -3, -2},
		{row(tiny, 2*tiny), tiny, 2 * tiny},
	} {
		low, high, e := field.Range(s.f)
		wantSingle(t, "Range: least", low, e, s.low)
		wantSingle(t, "Range: greatest", high, e, s.high)
	}
}

// P5: Rank returns what stands at a place when all are put in order, equal ones as they stood.
func TestRank(t *testing.T) {
	f := of(1, 1, 3, 3, 2, 0, -1, minusZero, 0, minusZero, top, 2, -top)
	for n, want := range []float32{-top, -1, 0, minusZero, 0, minusZero, 2, 2, top} {
		v, e := field.Rank(f, n)
		wantSingle(t, "Rank", v, e, want)
	}
	for _, n := range []int{-1, 9, math.MaxInt, math.MinInt} {
		v, e := field.Rank(f, n)
		wantNoSingle(t, "Rank", v, e, api.ErrRange)
	}
	v, e := field.Rank(row(3), 1)
	wantNoSingle(t, "Rank", v, e, api.ErrRange)
	many := &numbers{state: 8}
	g := many.field(region(0, 0, 30, 40), func() float32 { return []float32{minusZero, 0, 1, -1}[many.below(4)] })
	sorted := slices.Clone(g.V)
	// Putting each one behind all that are not greater keeps equal ones as they stood.
	for i := range sorted {
		for k := i; k > 0 && sorted[k] < sorted[k-1]; k-- {
			sorted[k], sorted[k-1] = sorted[k-1], sorted[k]
		}
	}
	for n := range sorted {
		v, e := field.Rank(g, n)
		wantSingle(t, "Rank", v, e, sorted[n])
	}
}

// P5: Histogram counts what lies beyond its bins in the first and the last one.
func TestHistogram(t *testing.T) {
	f := of(0, 0, 3, 3, -1, minusZero, 0, 0.49, 0.5, 0.99, 1, 1.5, 99)
	for _, s := range []struct {
		low, step float32
		n         int
		want      []int
	}{
		{0, 0.5, 3, []int{4, 2, 3}},
		{0, 0.5, 4, []int{4, 2, 1, 2}},
		{0, 0.5, 1, []int{9}},
		{-1, 1, 3, []int{1, 5, 3}},
		{0.5, 0.5, 2, []int{6, 3}},
		{-top, top, 3, []int{1, 8, 0}},
		{top, 1, 2, []int{9, 0}},
		// Quotients can be infinite.
		{0, tiny, 2, []int{3, 6}},
		{0.5, tiny, 2, []int{5, 4}},
		{1, tiny, 1000, append(append([]int{7}, make([]int, 998)...), 2)},
	} {
		l, e := field.Histogram(f, s.low, s.step, s.n)
		if e != api.OK || !slices.Equal(l, s.want) {
			t.Errorf("Histogram from %v by %v: got %v, error %d; want %v", s.low, s.step, l, e, s.want)
		}
	}
}

// P5, G6: the difference and the quotient of a bin are rounded to singles.
func TestHistogramRounds(t *testing.T) {
	n := &numbers{state: 9}
	f := n.field(region(0, 0, 64, 64), func() float32 { return float32(n.below(100)) / 10 })
	for _, step := range []float32{0.1, 0.3, 0.7} {
		for _, low := range []float32{0.1, -0.3, 3.3} {
			want := make([]int, 50)
			for _, v := range f.V {
				want[int(max(0, min(49, down(over(minus(v, low), step)))))]++
			}
			if l, e := field.Histogram(f, low, step, 50); e != api.OK || !slices.Equal(l, want) {
				t.Errorf("Histogram from %v by %v: got %v, error %d; want %v", low, step, l, e, want)
			}
		}
	}
	// 0.3 / 0.1 is 3 in singles, but less than 3 without rounding.
	if l, e := field.Histogram(row(0.3), 0, 0.1, 5); e != api.OK || !slices.Equal(l, []int{0, 0, 0, 1, 0}) {
		t.Error("Histogram", l, e)
	}
}

// P5, G7: the errors of Histogram.
func TestHistogramErrors(t *testing.T) {
	for _, s := range []struct {
		low, step float32
		n         int
		want      api.Errno
	}{
		{nan, 1, 3, api.ErrForm}, {0, nan, 3, api.ErrForm}, {inf, -1, 0, api.ErrForm}, {0, inf, 0, api.ErrForm},
		{beyond, nan, 3, api.ErrForm}, {beyond, 1, 3, api.ErrRange}, {0, beyond, 3, api.ErrRange},
		{0, 0, 3, api.ErrRange}, {0, minusZero, 3, api.ErrRange}, {0, -1, 3, api.ErrRange},
		{0, 1, 0, api.ErrRange}, {0, 1, -1, api.ErrRange}, {0, 1, 1001, api.ErrRange},
		{0, 1, math.MaxInt, api.ErrRange}, {0, 1, math.MinInt, api.ErrRange},
	} {
		if l, e := field.Histogram(row(1), s.low, s.step, s.n); e != s.want || len(l) != 0 {
			t.Errorf("Histogram(%v, %v, %d): got %v, error %d; want error %d", s.low, s.step, s.n, l, e, s.want)
		}
	}
	if l, e := field.Histogram(row(1), 0, 1, 1000); e != api.OK || len(l) != 1000 || l[1] != 1 {
		t.Error("Histogram", l, e)
	}
}
