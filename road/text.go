package road

import (
	"strconv"
	"strings"

	"tarnfell/api"
	"tarnfell/field"
	"tarnfell/water"
)

// Print is described in doc/05-road.md, P110.
func Print(way []api.Point) (string, api.Errno) {
	steps, e := stepsOf(way, inPlane)
	if e != api.OK {
		return "", e
	}
	text := strconv.AppendInt(nil, int64(way[0].X), 10)
	text = append(text, ' ')
	text = strconv.AppendInt(text, int64(way[0].Y), 10)
	for _, s := range steps {
		text = append(text, ' ', '0'+byte(s.d))
		if s.isBridge() {
			text = append(text, 'x')
			text = strconv.AppendInt(text, int64(s.n), 10)
		}
	}
	return string(text), api.OK
}

// Parse is described in doc/05-road.md, P110.
func Parse(text string) ([]api.Point, api.Errno) {
	if len(text) > api.MaxText {
		return nil, api.ErrLarge
	}
	way, right := parseWay(text)
	if !right {
		return nil, api.ErrSyntax
	}
	if _, e := stepsOf(way, inPlane); e != api.OK {
		return nil, e
	}
	return way, api.OK
}

func parseWay(text string) ([]api.Point, bool) {
	first, rest, _ := strings.Cut(text, " ")
	second, rest, more := strings.Cut(rest, " ")
	x, isX := field.Integer(first)
	y, isY := field.Integer(second)
	if !isX || !isY {
		return nil, false
	}
	p := api.Point{X: x, Y: y}
	way := []api.Point{p}
	if !more {
		return way, true
	}
	for word := range strings.SplitSeq(rest, " ") {
		s, right := parseStep(word)
		if !right {
			return nil, false
		}
		p = water.Onward(p, s.d, s.n)
		way = append(way, p)
	}
	return way, true
}

func parseStep(word string) (step, bool) {
	direction, steps, isBridge := strings.Cut(word, "x")
	d, right := field.Integer(direction)
	if !right || !field.Within(d, 0, water.Directions-1) {
		return step{}, false
	}
	if !isBridge {
		return step{d, 1}, true
	}
	n, right := field.Integer(steps)
	return step{d, n}, right && field.Within(n, 2, api.MaxSpan)
}
