package export

import (
	"strings"

	"tarnfell/api"
	"tarnfell/field"
)

const (
	grayKind  = "P2"
	colorKind = "P3"
	maxShade  = 255
)

// picture writes one of a region; add adds the numbers of a cell to those of its row.
func picture(kind string, r api.Region, add func(row []int, x, y int) []int) string {
	text := append([]byte(kind), '\n')
	text = appendWords(text, '\n', r.W, r.H)
	text = appendWords(text, '\n', maxShade)
	var row []int
	for y := r.Y; y < r.Y+r.H; y++ {
		row = row[:0]
		for x := r.X; x < r.X+r.W; x++ {
			row = add(row, x, y)
		}
		text = appendWords(text, '\n', row...)
	}
	return string(text)
}

// Gray is described in doc/10-export.md, P236.
func Gray(f api.Field, low, high float32) (string, api.Errno) {
	if e := field.Check(f); e != api.OK {
		return "", e
	}
	if e := field.CheckHeights(low, high); e != api.OK {
		return "", e
	}
	if high <= low {
		return "", api.ErrOrder
	}
	return picture(grayKind, f.Region, func(row []int, x, y int) []int {
		share := (valueAt(f, x, y) - low) / (high - low)
		shade, _ := clipped(float32(share*maxShade)+0.5, maxShade)
		return append(row, shade)
	}), api.OK
}

// ReadGray is described in doc/10-export.md, P236.
func ReadGray(text string) (int, int, []int, api.Errno) {
	if len(text) > api.MaxText {
		return 0, 0, nil, api.ErrLarge
	}
	r, shades, right := readGray(text)
	if !right {
		return 0, 0, nil, api.ErrSyntax
	}
	return r.W, r.H, shades, api.OK
}

func readGray(text string) (r api.Region, shades []int, right bool) {
	rest, isGray := strings.CutPrefix(text, grayKind+"\n")
	size, rest, isSize := readRow(rest, 2, api.MaxSide)
	most, rest, isMost := readRow(rest, 1, maxShade)
	if !isGray || !isSize || !isMost || most[0] != maxShade {
		return r, nil, false
	}
	r = api.Region{W: size[0], H: size[1]}
	if field.CheckRegion(r) != api.OK {
		return r, nil, false
	}
	for range r.H {
		row, behind, isRow := readRow(rest, r.W, maxShade)
		if !isRow {
			return r, nil, false
		}
		shades = append(shades, row...)
		rest = behind
	}
	return r, shades, rest == ""
}

// readRow reads a line of so many numbers from 0 to most, and gives what stands behind it.
func readRow(text string, many, most int) (numbers []int, rest string, right bool) {
	line, rest, ended := strings.Cut(text, "\n")
	// No more words are made than are wanted, so that a long line of spaces takes no room.
	words := strings.SplitN(line, " ", many+1)
	if !ended || len(words) != many {
		return nil, "", false
	}
	for _, word := range words {
		n, isNumber := field.Integer(word)
		if !isNumber || !field.Within(n, 0, most) {
			return nil, "", false
		}
		numbers = append(numbers, n)
	}
	return numbers, rest, true
}
