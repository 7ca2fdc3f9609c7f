package field

import (
	"math"
	"strconv"

	"tarnfell/api"
)

// The functions of this file are no part of doc/01-field.md: the later chapters need them as this one does.

// Within reports whether n is from least to most.
func Within(n, least, most int) bool { return least <= n && n <= most }

// CheckWithin gives ErrForm for a NaN or an infinity, and ErrRange for what is not from least to most.
func CheckWithin(v, least, most float32) api.Errno {
	switch {
	case !isFinite(v):
		return api.ErrForm
	case v < least || v > most:
		return api.ErrRange
	}
	return api.OK
}

// CheckHeights looks at all values twice, because a NaN behind a value out of range comes first (G7).
func CheckHeights(values ...float32) api.Errno {
	for _, v := range values {
		if !isFinite(v) {
			return api.ErrForm
		}
	}
	return checkRange(values)
}

// Floor is exact: the floor of a single is a single.
func Floor(v float32) float32 { return float32(math.Floor(float64(v))) }

// Magnitude is v without its sign.
func Magnitude(v float32) float32 { return max(v, -v) }

// Root is right as a single, although the root of the double is rounded a second time.
func Root(v float32) float32 { return float32(math.Sqrt(float64(v))) }

// Divide rounds the quotient down, where Go's division rounds towards 0; share is the rest, as a part of b, which is above 0.
func Divide(a, b int) (quotient int, share float32) {
	quotient, rest := a/b, a%b
	if rest < 0 {
		quotient--
		rest += b
	}
	return quotient, float32(rest) / float32(b)
}

// Mix does not give b for the share 1 where the difference is rounded; the document wants it so.
func Mix(a, b, share float32) float32 { return a + float32((b-a)*share) }

// Lesser gives the first one of two zeros, which min of Go does not.
func Lesser(a, b float32) float32 {
	if b < a {
		return b
	}
	return a
}

// Greater gives the first one of two zeros, which max of Go does not.
func Greater(a, b float32) float32 {
	if b > a {
		return b
	}
	return a
}

// Integer reads an int without superfluous zeros, and reports whether the text is one.
func Integer(text string) (int, bool) {
	n, err := strconv.Atoi(text)
	// Atoi also takes a plus, superfluous zeros and -0, which are not written back.
	if err != nil || strconv.Itoa(n) != text {
		return 0, false
	}
	return n, true
}

// Index tells where the value of the cell (x, y) of a region is.
func Index(r api.Region, x, y int) int { return (y-r.Y)*r.W + x - r.X }

// Has reports whether a region has the cell (x, y), which may lie anywhere.
func Has(r api.Region, x, y int) bool {
	return Within(x, r.X, r.X+r.W-1) && Within(y, r.Y, r.Y+r.H-1)
}

// Make makes the field of a region of the values at the places of its cells. Errors: that of CheckRegion; ErrRange, if a value is no height.
func Make(r api.Region, value func(x, y int) float32) (api.Field, api.Errno) {
	if e := CheckRegion(r); e != api.OK {
		return api.Field{}, e
	}
	return byPlace(r, value)
}
