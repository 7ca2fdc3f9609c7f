package export

import (
	"strings"

	"tarnfell/api"
	"tarnfell/field"
)

const (
	sumModulus = 65521
	maxPacked  = 1 << 40
	maxGroups  = 9
	groupBits  = 7
	groupMore  = 1 << groupBits // what is added to a byte behind which the number goes on
)

// Sum is described in doc/10-export.md, P235.
func Sum(text string) int {
	a, b := 1, 0
	for i := range len(text) {
		a = (a + int(text[i])) % sumModulus
		b = (b + a) % sumModulus
	}
	return b<<16 + a
}

// Pack is described in doc/10-export.md, P235.
func Pack(l []int) (string, api.Errno) {
	if e := checkPacked(l); e != api.OK {
		return "", e
	}
	var text strings.Builder
	for _, n := range l {
		m := 2 * n
		if n < 0 {
			m = -m - 1
		}
		for ; m >= groupMore; m >>= groupBits {
			text.WriteByte(byte(m%groupMore + groupMore))
		}
		text.WriteByte(byte(m))
	}
	return text.String(), api.OK
}

// checkPacked gives the errors of Pack.
func checkPacked(l []int) api.Errno {
	if len(l) > api.MaxCells {
		return api.ErrLarge
	}
	for _, n := range l {
		if !field.Within(n, -maxPacked, maxPacked) {
			return api.ErrRange
		}
	}
	return api.OK
}

// Unpack is described in doc/10-export.md, P235.
func Unpack(text string) ([]int, api.Errno) {
	if len(text) > api.MaxText {
		return nil, api.ErrLarge
	}
	var l []int
	for text != "" {
		n, wide, right := unpackOne(text)
		if !right {
			return nil, api.ErrForm
		}
		l = append(l, n)
		text = text[wide:]
	}
	if e := checkPacked(l); e != api.OK {
		return nil, e
	}
	return l, api.OK
}

// unpackOne reads the number with which a text begins. It gives how many bytes that has, and whether it has the form of Pack.
func unpackOne(text string) (n, wide int, right bool) {
	m := 0
	for i := range min(len(text), maxGroups) {
		group := int(text[i])
		m += group % groupMore << (groupBits * i)
		if group >= groupMore {
			continue
		}
		if m%2 != 0 {
			m = -m - 1
		}
		return m / 2, i + 1, group > 0 || i == 0
	}
	return 0, 0, false
}
