package water

import (
	"strconv"
	"strings"

	"tarnfell/api"
	"tarnfell/field"
	"tarnfell/noise"
)

const maxOrder = 100

// PrintRivers is described in doc/04-water.md, P78.
func PrintRivers(l []api.River) (string, api.Errno) {
	if e := checkRivers(l); e != api.OK {
		return "", e
	}
	var text []byte
	for _, v := range l {
		text = appendRiver(text, v)
		if len(text) > api.MaxText {
			return "", api.ErrLarge
		}
	}
	return string(text), api.OK
}

// checkRivers gives the errors of PrintRivers, but for that of a long text.
func checkRivers(l []api.River) api.Errno {
	if len(l) > api.MaxCells {
		return api.ErrLarge
	}
	for _, v := range l {
		if e := checkRiver(v, len(l)); e != api.OK {
			return e
		}
	}
	return api.OK
}

func checkRiver(v api.River, many int) api.Errno {
	switch {
	case len(v.Points) == 0:
		return api.ErrEmpty
	case !field.Within(v.Amount, 0, maxAmount) || !field.Within(v.Order, 1, maxOrder):
		return api.ErrRange
	case !field.Within(v.Into, none, many-1):
		return api.ErrNone
	}
	for _, p := range v.Points {
		if e := noise.CheckPlace(p.X, p.Y); e != api.OK {
			return e
		}
	}
	for i, p := range v.Points[1:] {
		if direction(v.Points[i], p) == none {
			return api.ErrForm
		}
	}
	return api.OK
}

// direction gives that of the step from a place to another one, or none.
func direction(from, to api.Point) int {
	for d := range directions {
		if Onward(from, d, 1) == to {
			return d
		}
	}
	return none
}

func appendRiver(text []byte, v api.River) []byte {
	text = append(text, "river "...)
	for _, n := range []int{v.Amount, v.Order, v.Into, v.Points[0].X, v.Points[0].Y} {
		text = strconv.AppendInt(text, int64(n), 10)
		text = append(text, ' ')
	}
	if len(v.Points) == 1 {
		text = append(text, '-')
	}
	for i, p := range v.Points[1:] {
		text = append(text, '0'+byte(direction(v.Points[i], p)))
	}
	return append(text, '\n')
}

// ParseRivers is described in doc/04-water.md, P78.
func ParseRivers(text string) ([]api.River, int, api.Errno) {
	if len(text) > api.MaxText {
		return nil, 0, api.ErrLarge
	}
	var l []api.River
	for text != "" {
		line, rest, ended := strings.Cut(text, "\n")
		v, right := parseRiver(line)
		if !ended || !right {
			return nil, len(l), api.ErrSyntax
		}
		l = append(l, v)
		text = rest
	}
	if e := checkRivers(l); e != api.OK {
		return nil, 0, e
	}
	return l, 0, api.OK
}

func parseRiver(line string) (api.River, bool) {
	words := strings.SplitN(line, " ", 8)
	if len(words) != 7 || words[0] != "river" {
		return api.River{}, false
	}
	var numbers [5]int
	for i, word := range words[1:6] {
		n, right := field.Integer(word)
		if !right {
			return api.River{}, false
		}
		numbers[i] = n
	}
	points, right := follow(api.Point{X: numbers[3], Y: numbers[4]}, words[6])
	return api.River{Points: points, Amount: numbers[0], Order: numbers[1], Into: numbers[2]}, right
}

// follow gives the points of a river that begins at a place, and reports whether its directions are such.
func follow(p api.Point, dirs string) ([]api.Point, bool) {
	points := []api.Point{p}
	if dirs == "-" {
		return points, true
	}
	for i := range len(dirs) {
		if dirs[i] < '0' || dirs[i] > '7' {
			return nil, false
		}
		p = Onward(p, int(dirs[i]-'0'), 1)
		points = append(points, p)
	}
	return points, dirs != ""
}
