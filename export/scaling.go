package export

import (
	"tarnfell/api"
	"tarnfell/field"
)

const (
	maxBits   = 24
	leastStep = 0x1p-20 // of Fit
)

// CheckScale is described in doc/10-export.md, P231.
func CheckScale(s api.Scaling) api.Errno {
	if e := field.CheckHeights(s.Low, s.Step); e != api.OK {
		return e
	}
	if s.Step <= 0 || !field.Within(s.Bits, 1, maxBits) {
		return api.ErrRange
	}
	return api.OK
}

// greatest is that of the levels of so many bits.
func greatest(bits int) int { return 1<<bits - 1 }

// Level is described in doc/10-export.md, P231.
func Level(s api.Scaling, v float32) (int, bool, api.Errno) {
	if e := CheckScale(s); e != api.OK {
		return 0, false, e
	}
	if e := field.CheckHeights(v); e != api.OK {
		return 0, false, e
	}
	n, within := clipped((v-s.Low)/s.Step+0.5, greatest(s.Bits))
	return n, within, api.OK
}

// Value is described in doc/10-export.md, P231.
func Value(s api.Scaling, n int) (float32, api.Errno) {
	if e := CheckScale(s); e != api.OK {
		return 0, e
	}
	if !field.Within(n, 0, greatest(s.Bits)) {
		return 0, api.ErrRange
	}
	v := ofLevel(s, n)
	if e := field.CheckHeights(v); e != api.OK {
		return 0, e
	}
	return v, api.OK
}

// ofLevel gives the value of a level, which need be no height.
func ofLevel(s api.Scaling, n int) float32 { return s.Low + float32(float32(n)*s.Step) }

// Fit is described in doc/10-export.md, P231.
func Fit(f api.Field, bits int) (api.Scaling, api.Errno) {
	low, high, e := field.Range(f)
	if e != api.OK {
		return api.Scaling{}, e
	}
	if !field.Within(bits, 1, maxBits) {
		return api.Scaling{}, api.ErrRange
	}
	step := field.Greater((high-low)/float32(greatest(bits)), leastStep)
	if e := field.CheckHeights(step); e != api.OK {
		return api.Scaling{}, e
	}
	return api.Scaling{Low: low, Step: step, Bits: bits}, api.OK
}
