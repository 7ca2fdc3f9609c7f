package export

import (
	"math"

	"tarnfell/api"
	"tarnfell/field"
)

const scaleBytes = 2*wordBytes + 1

// layout is how a format writes values: whether it does so with a scaling, how it writes them, and how it reads so many again. Writing tells whether all of them are in its bounds; values that are read need not be heights.
type layout struct {
	scaled bool
	write  func(v []float32, s api.Scaling) (text []byte, right bool)
	read   func(text string, many int) ([]float32, api.Errno)
}

func layouts() map[int]layout {
	return map[int]layout{
		api.FormatFull:   byCodes(4, func(v float32) int { return int(math.Float32bits(v)) }, func(code int) float32 { return math.Float32frombits(uint32(code)) }),
		api.FormatHalf:   byCodes(2, nearestHalf, ofHalf),
		api.FormatShort:  byCodes(2, Short, ofShort),
		api.FormatLevels: byLevels(writeBits, readBits),
		api.FormatDeltas: byLevels(writeDeltas, readDeltas),
	}
}

// checkScale gives the errors of a scaling, which must be zero where it is not used.
func (l layout) checkScale(s api.Scaling) api.Errno {
	if l.scaled {
		return CheckScale(s)
	}
	if s != (api.Scaling{}) {
		return api.ErrForm
	}
	return api.OK
}

// byCodes is the layout of codes of so many bytes, one for each value.
func byCodes(wide int, codeOf func(v float32) int, of func(code int) float32) layout {
	write := func(v []float32, _ api.Scaling) ([]byte, bool) {
		text := make([]byte, 0, wide*len(v))
		for _, h := range v {
			code := codeOf(h)
			if math.IsInf(float64(of(code)), 0) {
				return nil, false
			}
			text = appendBytes(text, uint32(code), wide)
		}
		return text, true
	}
	read := func(text string, many int) ([]float32, api.Errno) {
		if len(text) != wide*many {
			return nil, api.ErrForm
		}
		v := make([]float32, many)
		for i := range v {
			v[i] = of(int(number(text[wide*i : wide*(i+1)])))
		}
		return v, api.OK
	}
	return layout{write: write, read: read}
}

// byLevels is the layout of a scaling, and of the levels of all values, which writeLevels adds to a text, and of which readLevels reads so many.
func byLevels(writeLevels func(text []byte, levels []int, bits int) []byte, readLevels func(text string, many, bits int) (levels []int, right bool)) layout {
	write := func(v []float32, s api.Scaling) ([]byte, bool) {
		levels := make([]int, len(v))
		for i, h := range v {
			n, within, _ := Level(s, h)
			if _, e := Value(s, n); !within || e != api.OK {
				return nil, false
			}
			levels[i] = n
		}
		text := appendBytes(nil, math.Float32bits(s.Low), wordBytes)
		text = appendBytes(text, math.Float32bits(s.Step), wordBytes)
		return writeLevels(append(text, byte(s.Bits)), levels, s.Bits), true
	}
	read := func(text string, many int) ([]float32, api.Errno) {
		if len(text) < scaleBytes {
			return nil, api.ErrForm
		}
		s := scaleOf(text)
		if e := CheckScale(s); e != api.OK {
			return nil, e
		}
		levels, right := readLevels(text[scaleBytes:], many, s.Bits)
		if !right {
			return nil, api.ErrForm
		}
		v := make([]float32, many)
		for i, n := range levels {
			v[i] = ofLevel(s, n)
		}
		return v, api.OK
	}
	return layout{true, write, read}
}

func scaleOf(text string) api.Scaling {
	return api.Scaling{
		Low:  math.Float32frombits(number(text[:wordBytes])),
		Step: math.Float32frombits(number(text[wordBytes : 2*wordBytes])),
		Bits: int(text[2*wordBytes]),
	}
}

// writeBits writes so many bits of each level, the highest first.
func writeBits(text []byte, levels []int, bits int) []byte {
	left, many := uint32(0), 0 // what is not written so far, and how many bits that are
	for _, n := range levels {
		left = left<<bits | uint32(n)
		for many += bits; many >= 8; many -= 8 {
			text = append(text, byte(left>>(many-8)))
		}
	}
	if many > 0 {
		text = append(text, byte(left<<(8-many)))
	}
	return text
}

func readBits(text string, many, bits int) ([]int, bool) {
	if len(text) != (many*bits+7)/8 {
		return nil, false
	}
	levels := make([]int, 0, many)
	left, more := uint32(0), 0 // what is read, but of no level so far, and how many bits that are
	for i := range len(text) {
		left = left<<8 | uint32(text[i])
		for more += 8; more >= bits && len(levels) < many; more -= bits {
			levels = append(levels, int(left>>(more-bits))&greatest(bits))
		}
	}
	return levels, left&(1<<more-1) == 0
}

// writeDeltas writes the differences of the levels: as these are small, Pack has no error.
func writeDeltas(text []byte, levels []int, _ int) []byte {
	deltas := make([]int, len(levels))
	before := 0
	for i, n := range levels {
		deltas[i] = n - before
		before = n
	}
	packed, _ := Pack(deltas)
	return append(text, packed...)
}

func readDeltas(text string, many, bits int) ([]int, bool) {
	levels, e := Unpack(text)
	if e != api.OK || len(levels) != many {
		return nil, false
	}
	n := 0
	for i, delta := range levels {
		n += delta
		if !field.Within(n, 0, greatest(bits)) {
			return nil, false
		}
		levels[i] = n
	}
	return levels, true
}
