package export

import (
	"math"

	"tarnfell/api"
	"tarnfell/field"
)

const (
	maxCode    = 1<<16 - 1 // the greatest half, and the greatest short, as a number
	signOfHalf = 1 << 15
	infHalf    = 0x7c00
	nanHalf    = 0x7e00
	nanShort   = 0x7fc0
	infSingle  = 0x7f800000
	infFrom    = 65520    // the least magnitude whose nearest half is an infinity
	fullFrom   = 0x1p-14  // the least magnitude of a half with all its bits
	lessBits   = 23 - 10  // by which halves have fewer of them behind the first one
	otherBias  = 127 - 15 // of the exponents of singles and halves
)

// Half is described in doc/10-export.md, P230.
func Half(v float32) (int, bool) {
	half := nearestHalf(v)
	return half, ofHalf(half) == v
}

func nearestHalf(v float32) int {
	size := field.Magnitude(v)
	half := 0
	switch {
	case math.IsNaN(float64(v)):
		return nanHalf
	case size >= infFrom:
		half = infHalf
	case size < fullFrom:
		// The last bit of a single from 0.5 to below 1 is worth as much as that of such a half, so that this sum is rounded as the half is.
		half = int(math.Float32bits(size+0.5) - math.Float32bits(0.5))
	default:
		half = int(nearest(math.Float32bits(size), lessBits) - otherBias<<10)
	}
	if math.Signbit(float64(v)) {
		half += signOfHalf
	}
	return half
}

// nearest drops the last bits of a number, and gives the nearest one of those that are left, of two that are equally near the even one.
func nearest(n uint32, drop int) uint32 {
	last := n >> drop & 1
	return (n + (1<<(drop-1) - 1) + last) >> drop
}

// ofHalf gives the single of a half, which may be a NaN or an infinity.
func ofHalf(half int) float32 {
	bits := uint32(half%signOfHalf) << lessBits
	size := math.Float32frombits(bits) * (1 << otherBias)
	if half%signOfHalf >= infHalf {
		size = math.Float32frombits(bits | infSingle)
	}
	if half >= signOfHalf {
		return -size
	}
	return size
}

// Whole is described in doc/10-export.md, P230.
func Whole(half int) (float32, api.Errno) { return decoded(half, ofHalf) }

// decoded gives the single of a half or a short, with the errors of both.
func decoded(code int, of func(code int) float32) (float32, api.Errno) {
	if !field.Within(code, 0, maxCode) {
		return 0, api.ErrRange
	}
	v := of(code)
	if e := field.CheckWithin(v, -math.MaxFloat32, math.MaxFloat32); e != api.OK {
		return 0, e
	}
	return v, api.OK
}

// Short is described in doc/10-export.md, P230.
func Short(v float32) int {
	if math.IsNaN(float64(v)) {
		return nanShort
	}
	return int(nearest(math.Float32bits(v), 16))
}

// ofShort gives the single of a short, which may be a NaN or an infinity.
func ofShort(short int) float32 { return math.Float32frombits(uint32(short) << 16) }

// Long is described in doc/10-export.md, P230.
func Long(short int) (float32, api.Errno) { return decoded(short, ofShort) }
