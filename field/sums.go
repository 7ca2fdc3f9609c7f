package field

import (
	"cmp"
	"slices"

	"tarnfell/api"
)

const maxBins = 1000

// Sum is described in doc/01-field.md, P5.
func Sum(f api.Field, how int) (float32, api.Errno) {
	if e := Check(f); e != api.OK {
		return 0, e
	}
	switch how {
	case api.SumRows:
		return sumRows(f.V), api.OK
	case api.SumPairs:
		return sumPairs(f.V), api.OK
	case api.SumKept:
		return sumKept(f.V), api.OK
	}
	return 0, api.ErrKind
}

// sumRows begins with the first value, not with 0: the sum of a -0 alone is -0.
func sumRows(values []float32) float32 {
	sum := values[0]
	for _, v := range values[1:] {
		sum += v
	}
	return sum
}

func sumPairs(values []float32) float32 {
	if len(values) == 1 {
		return values[0]
	}
	half := len(values) / 2
	return sumPairs(values[:half]) + sumPairs(values[half:])
}

func sumKept(values []float32) float32 {
	var sum, lost float32
	for _, v := range values {
		t := v - lost
		next := sum + t
		lost = (next - sum) - t
		sum = next
	}
	return sum
}

// Mean is described in doc/01-field.md, P5.
func Mean(f api.Field) (float32, api.Errno) {
	if e := Check(f); e != api.OK {
		return 0, e
	}
	return height(sumPairs(f.V) / float32(len(f.V)))
}

// Range is described in doc/01-field.md, P5.
func Range(f api.Field) (low, high float32, e api.Errno) {
	if e := Check(f); e != api.OK {
		return 0, 0, e
	}
	low, high = f.V[0], f.V[0]
	for _, v := range f.V[1:] {
		low, high = Lesser(low, v), Greater(high, v)
	}
	return low, high, api.OK
}

// Rank is described in doc/01-field.md, P5.
func Rank(f api.Field, n int) (float32, api.Errno) {
	if e := Check(f); e != api.OK {
		return 0, e
	}
	if !Within(n, 0, len(f.V)-1) {
		return 0, api.ErrRange
	}
	// Zeros of both signs are equal, so that only a stable order tells which of them stands at n.
	sorted := slices.Clone(f.V)
	slices.SortStableFunc(sorted, cmp.Compare[float32])
	return sorted[n], api.OK
}

// Histogram is described in doc/01-field.md, P5.
func Histogram(f api.Field, low, step float32, n int) ([]int, api.Errno) {
	if e := Check(f); e != api.OK {
		return nil, e
	}
	if e := CheckHeights(low, step); e != api.OK {
		return nil, e
	}
	if step <= 0 || !Within(n, 1, maxBins) {
		return nil, api.ErrRange
	}
	counts := make([]int, n)
	for _, v := range f.V {
		counts[bin((v-low)/step, n)]++
	}
	return counts, api.OK
}

// bin looks for the bounds ahead of the conversion, because the quotient can be beyond an int.
func bin(quotient float32, n int) int {
	switch {
	case quotient < 0:
		return 0
	case quotient >= float32(n):
		return n - 1
	}
	return int(Floor(quotient))
}
