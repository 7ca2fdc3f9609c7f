package export

import (
	"math"
	"strings"

	"tarnfell/api"
	"tarnfell/field"
	"tarnfell/water"
)

const (
	mark      = "TARN"
	wordBytes = 4
	headBytes = len(mark) + 1 + 4*wordBytes
)

// Encode is described in doc/10-export.md, P232.
func Encode(f api.Field, format int, s api.Scaling) (string, api.Errno) {
	if e := field.Check(f); e != api.OK {
		return "", e
	}
	l, known := layouts()[format]
	if !known {
		return "", api.ErrKind
	}
	if e := l.checkScale(s); e != api.OK {
		return "", e
	}
	values, right := l.write(f.V, s)
	if !right {
		return "", api.ErrRange
	}
	text := append([]byte(mark), byte(format))
	for _, n := range [4]int{f.X, f.Y, f.W, f.H} {
		text = appendBytes(text, uint32(n), wordBytes)
	}
	text = append(text, values...)
	return string(appendBytes(text, uint32(Sum(string(text))), wordBytes)), api.OK
}

// appendBytes adds the lowest bytes of a number, the highest one of them first.
func appendBytes(text []byte, n uint32, many int) []byte {
	for many > 0 {
		many--
		text = append(text, byte(n>>(8*many)))
	}
	return text
}

// number reads what appendBytes has written.
func number(text string) uint32 {
	n := uint32(0)
	for i := range len(text) {
		n = n<<8 | uint32(text[i])
	}
	return n
}

// Decode is described in doc/10-export.md, P233.
func Decode(text string) (api.Field, api.Errno) {
	f, e := decode(text)
	if e != api.OK {
		return api.Field{}, e
	}
	return f, api.OK
}

// decode also gives what it has read ahead of an error.
func decode(text string) (f api.Field, e api.Errno) {
	end := len(text) - wordBytes
	switch {
	case len(text) > api.MaxText:
		return f, api.ErrLarge
	case len(text) < headBytes+wordBytes || !strings.HasPrefix(text, mark):
		return f, api.ErrSyntax
	case number(text[end:]) != uint32(Sum(text[:end])):
		return f, api.ErrSum
	}
	l, known := layouts()[int(text[len(mark)])]
	if !known {
		return f, api.ErrKind
	}
	f.Region = regionOf(text[len(mark)+1:])
	if e := field.CheckRegion(f.Region); e != api.OK {
		return f, e
	}
	f.V, e = l.read(text[headBytes:end], f.W*f.H)
	if e != api.OK {
		return f, e
	}
	return f, field.Check(f)
}

// regionOf reads the four numbers of a region; its place can lie below 0.
func regionOf(text string) api.Region {
	word := func(i int) uint32 { return number(text[i*wordBytes : (i+1)*wordBytes]) }
	return api.Region{X: int(int32(word(0))), Y: int(int32(word(1))), W: int(word(2)), H: int(word(3))}
}

// Loss is described in doc/10-export.md, P234.
func Loss(f api.Field, format int, s api.Scaling) (api.Lost, api.Errno) {
	text, e := Encode(f, format, s)
	if e != api.OK {
		return api.Lost{}, e
	}
	// What Encode has written has no error.
	g, _ := Decode(text)
	lost, worst := api.Lost{Bytes: len(text)}, 0
	for i, v := range f.V {
		if much := field.Magnitude(v - g.V[i]); much > lost.Worst {
			lost.Worst, worst = much, i
		}
		if math.Float32bits(v) == math.Float32bits(g.V[i]) {
			lost.Exact++
		}
	}
	lost.Cell = water.Place(f.Region, worst)
	return lost, api.OK
}
