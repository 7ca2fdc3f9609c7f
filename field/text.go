package field

import (
	"strconv"
	"strings"

	"tarnfell/api"
)

const maxNumberBytes = 100

// Number is described in doc/01-field.md, P9.
func Number(v float32) (string, api.Errno) {
	if e := CheckHeights(v); e != api.OK {
		return "", e
	}
	return string(appendNumber(nil, v)), api.OK
}

func appendNumber(text []byte, v float32) []byte {
	return strconv.AppendFloat(text, float64(v), 'g', -1, 32)
}

// ParseNumber is described in doc/01-field.md, P9.
func ParseNumber(text string) (float32, api.Errno) {
	if len(text) > maxNumberBytes || !isNumber(text) {
		return 0, api.ErrSyntax
	}
	// The form is right, so that an error means a number beyond all singles: then v is infinite, and no height.
	v, _ := strconv.ParseFloat(text, 32)
	return height(float32(v))
}

func isNumber(text string) bool {
	decimal, exponent, scaled := strings.Cut(strings.TrimPrefix(text, "-"), "e")
	whole, part, broken := strings.Cut(decimal, ".")
	return isDigits(whole) && (!broken || isDigits(part)) && (!scaled || isExponent(exponent))
}

func isDigits(text string) bool {
	for i := range len(text) {
		if text[i] < '0' || text[i] > '9' {
			return false
		}
	}
	return text != ""
}

func isExponent(text string) bool {
	if strings.HasPrefix(text, "+") || strings.HasPrefix(text, "-") {
		text = text[1:]
	}
	return isDigits(text) && len(text) <= 3
}

// Print is described in doc/01-field.md, P10.
func Print(f api.Field) (string, api.Errno) {
	if e := Check(f); e != api.OK {
		return "", e
	}
	text := []byte("field")
	for _, n := range []int{f.X, f.Y, f.W, f.H} {
		text = append(text, ' ')
		text = strconv.AppendInt(text, int64(n), 10)
	}
	for i, v := range f.V {
		mark := byte(' ')
		if i%f.W == 0 {
			mark = '\n'
		}
		text = append(text, mark)
		text = appendNumber(text, v)
	}
	return string(append(text, '\n')), api.OK
}

// Parse is described in doc/01-field.md, P10.
func Parse(text string) (api.Field, int, api.Errno) {
	if len(text) > api.MaxText {
		return api.Field{}, 0, api.ErrLarge
	}
	head, rest, ended := strings.Cut(text, "\n")
	r, right := parseHead(head)
	if !ended || !right {
		return api.Field{}, 0, api.ErrSyntax
	}
	if e := CheckRegion(r); e != api.OK {
		return api.Field{}, 0, e
	}
	values := make([]float32, 0, r.W*r.H)
	for line := 1; line <= r.H; line++ {
		row, behind, ended := strings.Cut(rest, "\n")
		if !ended {
			return api.Field{}, line, api.ErrSyntax
		}
		numbers, e := parseRow(row, r.W)
		if e != api.OK {
			return api.Field{}, line, e
		}
		values = append(values, numbers...)
		rest = behind
	}
	if rest != "" {
		return api.Field{}, r.H + 1, api.ErrSyntax
	}
	return api.Field{Region: r, V: values}, 0, api.OK
}

func parseHead(line string) (api.Region, bool) {
	words, right := split(line, 5)
	if !right || words[0] != "field" {
		return api.Region{}, false
	}
	var numbers [4]int
	for i, word := range words[1:] {
		n, right := Integer(word)
		if !right {
			return api.Region{}, false
		}
		numbers[i] = n
	}
	return api.Region{X: numbers[0], Y: numbers[1], W: numbers[2], H: numbers[3]}, true
}

// parseRow looks at all words ahead of ErrRange, because ErrSyntax behind it in a row comes first.
func parseRow(line string, many int) ([]float32, api.Errno) {
	words, right := split(line, many)
	if !right {
		return nil, api.ErrSyntax
	}
	values := make([]float32, many)
	first := api.OK
	for i, word := range words {
		v, e := ParseNumber(word)
		if e == api.ErrSyntax {
			return nil, e
		}
		if e != api.OK {
			first = e
		}
		values[i] = v
	}
	if first != api.OK {
		return nil, first
	}
	return values, api.OK
}

// split stops behind the words that are wanted, so that a long line of spaces takes no room.
func split(line string, many int) ([]string, bool) {
	words := strings.SplitN(line, " ", many+1)
	return words, len(words) == many
}
