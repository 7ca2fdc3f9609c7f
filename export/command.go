package export

import (
	"strconv"
	"strings"

	"tarnfell/api"
	"tarnfell/field"
	"tarnfell/level"
	"tarnfell/recipe"
	"tarnfell/road"
	"tarnfell/water"
)

// command is what lines with the same first word have in common: the forms of the other words (i for an integer, n for a number), whether the first one of these tells how many more lines belong to it, and what is done, which gives the text that is written.
type command struct {
	form     string
	hasLines bool
	does     func(s *session, in input) (string, api.Errno)
}

// commands has the table of P242. Who runs several lines makes it only once.
func commands() map[string]command {
	return map[string]command{
		"recipe": {"i", true, (*session).learn},
		"eval":   {"iiii", false, (*session).eval},
		"field": {"i", true, func(s *session, in input) (string, api.Errno) {
			f, _, e := field.Parse(in.lines)
			return s.change(f, e)
		}},
		"show":   {"", false, func(s *session, _ input) (string, api.Errno) { return field.Print(s.field) }},
		"sum":    {"", false, (*session).sum},
		"range":  {"", false, (*session).bounds},
		"camera": {"nnnnnnn", false, (*session).look},
		"draw": {"ii", false, func(s *session, in input) (string, api.Errno) {
			return Draw(s.field, s.camera, in.ints[0], in.ints[1])
		}},
		"scale": {"nni", false, (*session).scale},
		"loss":  {"i", false, (*session).loss},
		"fill": {"n", false, func(s *session, in input) (string, api.Errno) {
			return s.change(water.Filled(s.field, in.reals[0]))
		}},
		"carve":  {"nnni", false, (*session).carve},
		"way":    {"iiii", false, (*session).way},
		"mesh":   {"n", false, (*session).mesh},
		"hit":    {"", false, (*session).hit},
		"height": {"n", false, (*session).height},
		"undo":   {"", false, (*session).undo},
	}
}

// lineOf gives one of words.
func lineOf(words ...string) string { return strings.Join(words, " ") + "\n" }

func decimal(v float32) string {
	text, _ := field.Number(v)
	return text
}

func (s *session) learn(in input) (string, api.Errno) {
	r, _, e := recipe.Parse(in.lines)
	if e != api.OK {
		return "", e
	}
	g, e := recipe.Compile(r)
	if e != api.OK {
		return "", e
	}
	s.graph = g
	return "", api.OK
}

func (s *session) eval(in input) (string, api.Errno) {
	if len(s.graph.Nodes) == 0 {
		return "", api.ErrState
	}
	return s.change(recipe.Eval(s.graph, api.Region{X: in.ints[0], Y: in.ints[1], W: in.ints[2], H: in.ints[3]}))
}

func (s *session) sum(input) (string, api.Errno) {
	text, e := Encode(s.field, api.FormatFull, api.Scaling{})
	if e != api.OK {
		return "", e
	}
	return lineOf(strconv.Itoa(Sum(text))), api.OK
}

func (s *session) bounds(input) (string, api.Errno) {
	low, high, e := field.Range(s.field)
	if e != api.OK {
		return "", e
	}
	return lineOf(decimal(low), decimal(high)), api.OK
}

func (s *session) look(in input) (string, api.Errno) {
	v := in.reals
	c := api.Camera{X: v[0], Y: v[1], H: v[2], DX: v[3], DY: v[4], DH: v[5], Zoom: v[6]}
	if _, e := viewOf(c); e != api.OK {
		return "", e
	}
	s.camera = c
	return "", api.OK
}

func (s *session) scale(in input) (string, api.Errno) {
	scaling := api.Scaling{Low: in.reals[0], Step: in.reals[1], Bits: in.ints[0]}
	if e := CheckScale(scaling); e != api.OK {
		return "", e
	}
	s.scaling = scaling
	return "", api.OK
}

func (s *session) loss(in input) (string, api.Errno) {
	format, scaling := in.ints[0], api.Scaling{}
	if layouts()[format].scaled {
		scaling = s.scaling
	}
	lost, e := Loss(s.field, format, scaling)
	if e != api.OK {
		return "", e
	}
	return lineOf(decimal(lost.Worst), strconv.Itoa(lost.Exact), strconv.Itoa(lost.Bytes)), api.OK
}

func (s *session) carve(in input) (string, api.Errno) {
	c := api.Carving{Rate: in.reals[0], Least: in.reals[1], Most: in.reals[2], Steps: in.ints[0]}
	return s.change(water.Carve(s.field, c))
}

func (s *session) way(in input) (string, api.Errno) {
	rules := api.RoadRules{Grade: 1, Weight: 4, Bridge: 1}
	from, to := api.Point{X: in.ints[0], Y: in.ints[1]}, api.Point{X: in.ints[2], Y: in.ints[3]}
	way, price, e := road.Way(s.field, rules, from, to)
	if e != api.OK {
		return "", e
	}
	text, e := road.Print(way)
	if e != api.OK {
		return "", e
	}
	return lineOf(text) + lineOf(decimal(price)), api.OK
}

func (s *session) mesh(in input) (string, api.Errno) {
	l, e := level.Mesh(s.field, in.reals[0])
	if e != api.OK {
		return "", e
	}
	return lineOf(strconv.Itoa(len(l))), api.OK
}

func (s *session) hit(input) (string, api.Errno) {
	c := s.camera
	strike, struck, e := level.Hit(s.field, api.Ray{X: c.X, Y: c.Y, H: c.H, DX: c.DX, DY: c.DY, DH: c.DH, Most: farthest})
	switch {
	case e != api.OK:
		return "", e
	case !struck:
		return lineOf("none"), api.OK
	}
	return lineOf(strconv.Itoa(strike.Cell.X), strconv.Itoa(strike.Cell.Y), decimal(strike.T)), api.OK
}

func (s *session) height(in input) (string, api.Errno) {
	l, e := level.Contour(s.field, in.reals[0])
	if e != api.OK {
		return "", e
	}
	closed := 0
	for _, c := range l {
		if c.Closed {
			closed++
		}
	}
	return lineOf(strconv.Itoa(len(l)), strconv.Itoa(closed)), api.OK
}

func (s *session) undo(input) (string, api.Errno) {
	last := len(s.earlier) - 1
	if last < 0 {
		return "", api.ErrState
	}
	s.field, s.earlier = s.earlier[last], s.earlier[:last]
	return "", api.OK
}
