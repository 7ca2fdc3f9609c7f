package export

import (
	"strconv"
	"strings"

	"tarnfell/api"
	"tarnfell/field"
	"tarnfell/level"
	"tarnfell/water"
)

const (
	cornerWord   = "v"
	triangleWord = "f"
	lineWords    = 4
)

func cornersOf(t api.Triangle) [3]api.Point { return [3]api.Point{t.A, t.B, t.C} }

// Object is described in doc/10-export.md, P239. Its text is never too large: the greatest grid with the most triangles makes less than MaxText bytes.
func Object(l []api.Triangle, f api.Field) (string, api.Errno) {
	if _, e := level.CheckGrid(f); e != api.OK {
		return "", e
	}
	if len(l) > api.MaxTriangles {
		return "", api.ErrLarge
	}
	grid := api.Region{W: f.W, H: f.H}
	isCorner := make([]bool, len(f.V))
	for _, t := range l {
		for _, p := range cornersOf(t) {
			if !field.Has(grid, p.X, p.Y) {
				return "", api.ErrPlace
			}
			isCorner[field.Index(grid, p.X, p.Y)] = true
		}
	}
	text, numbers := cornerLines(f, isCorner)
	for _, t := range l {
		text = append(text, triangleWord...)
		for _, p := range cornersOf(t) {
			text = append(text, ' ')
			text = strconv.AppendInt(text, int64(numbers[field.Index(grid, p.X, p.Y)]), 10)
		}
		text = append(text, '\n')
	}
	return string(text), api.OK
}

// cornerLines writes the cells that are corners, and gives the number of each one, from 1 on.
func cornerLines(f api.Field, isCorner []bool) (text []byte, numbers []int) {
	numbers = make([]int, len(f.V))
	many := 0
	for i, v := range f.V {
		if !isCorner[i] {
			continue
		}
		many++
		numbers[i] = many
		p := water.Place(api.Region{W: f.W}, i)
		height, _ := field.Number(v)
		text = append(text, strings.Join([]string{cornerWord, strconv.Itoa(p.X), height, strconv.Itoa(p.Y)}, " ")...)
		text = append(text, '\n')
	}
	return text, numbers
}

// ReadObject is described in doc/10-export.md, P239. The last line need not end with a line feed (G4).
func ReadObject(text string) ([][3]float32, [][3]int, int, api.Errno) {
	if len(text) > api.MaxText {
		return nil, nil, 0, api.ErrLarge
	}
	var corners [][3]float32
	var triangles [][3]int
	for number := 0; text != ""; number++ {
		line, rest, _ := strings.Cut(text, "\n")
		words := strings.SplitN(line, " ", lineWords+1)
		right := len(words) == lineWords
		switch {
		case right && words[0] == cornerWord && len(triangles) == 0:
			corners, right = addCorner(corners, words[1:])
		case right && words[0] == triangleWord:
			triangles, right = addTriangle(triangles, words[1:], len(corners))
		default:
			right = false
		}
		if !right {
			return nil, nil, number, api.ErrSyntax
		}
		text = rest
	}
	return corners, triangles, 0, api.OK
}

func addCorner(l [][3]float32, words []string) ([][3]float32, bool) {
	var corner [3]float32
	for i, word := range words {
		v, e := field.ParseNumber(word)
		if e != api.OK {
			return nil, false
		}
		corner[i] = v
	}
	return append(l, corner), true
}

// addTriangle reads one of the corners that there are, many of them, whose numbers in the text begin at 1. No text has room for so many that their numbers have more than 6 digits.
func addTriangle(l [][3]int, words []string, many int) ([][3]int, bool) {
	var triangle [3]int
	for i, word := range words {
		n, right := field.Integer(word)
		if !right || !field.Within(n, 1, many) {
			return nil, false
		}
		triangle[i] = n - 1
	}
	return append(l, triangle), true
}
