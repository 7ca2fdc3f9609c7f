package export

import (
	"strconv"
	"strings"

	"tarnfell/api"
	"tarnfell/field"
)

const (
	maxUndo    = 20
	maxWords   = 8         // of a line
	maxInteger = 999999999 // the greatest one of 9 digits
)

// session is what lines work on. There is a recipe, if its graph has nodes.
type session struct {
	rest    string // the lines that are to be run
	field   api.Field
	earlier []api.Field // what field was, most lately at the end
	camera  api.Camera
	scaling api.Scaling
	graph   api.Graph
}

// Session is described in doc/10-export.md, P242.
func Session(text string) string {
	if len(text) > api.MaxText {
		return errorLine(api.ErrLarge)
	}
	s := &session{
		rest:    text,
		field:   api.Field{Region: api.Region{W: 1, H: 1}, V: []float32{0}},
		camera:  api.Camera{H: 10, DX: 1, DH: -1, Zoom: 10},
		scaling: api.Scaling{Step: 1, Bits: 16},
	}
	all := commands()
	var written strings.Builder
	for s.rest != "" {
		written.WriteString(s.run(all, s.next()))
	}
	return written.String()
}

func errorLine(e api.Errno) string { return "error " + strconv.Itoa(int(e)) + "\n" }

// next takes the next line, which need not end with a line feed if it is the last one.
func (s *session) next() string {
	line, rest, _ := strings.Cut(s.rest, "\n")
	s.rest = rest
	return line
}

// block takes so many lines, or those that are left, and reports whether there were so many. Each one gets a line feed.
func (s *session) block(many int) (string, bool) {
	var text strings.Builder
	for range many {
		if s.rest == "" {
			return "", false
		}
		text.WriteString(s.next() + "\n")
	}
	return text.String(), true
}

// run gives what a line writes.
func (s *session) run(all map[string]command, line string) string {
	if line == "" {
		return ""
	}
	words := strings.SplitN(line, " ", maxWords+1)
	text, e := s.obey(all[words[0]], words[1:])
	if e != api.OK {
		return errorLine(e)
	}
	return text
}

// obey does what a line says. A command that there is not does nothing.
func (s *session) obey(c command, words []string) (string, api.Errno) {
	if c.does == nil {
		return "", api.ErrSyntax
	}
	in, e := c.read(words)
	if e != api.OK {
		return "", e
	}
	if c.hasLines {
		lines, whole := s.block(in.ints[0])
		if !whole {
			return "", api.ErrSyntax
		}
		in.lines = lines
	}
	return c.does(s, in)
}

// input is what stands behind the first word of a line: integers, numbers, and the lines that belong to it.
type input struct {
	ints  []int
	reals []float32
	lines string
}

// read reads the words of a line. It looks at all of them ahead of ErrRange, because ErrSyntax behind it comes first.
func (c command) read(words []string) (input, api.Errno) {
	if len(words) != len(c.form) {
		return input{}, api.ErrSyntax
	}
	var in input
	first := api.OK
	for i, word := range words {
		e := in.add(c.form[i], word)
		if e == api.ErrSyntax {
			return input{}, e
		}
		if e != api.OK {
			first = e
		}
	}
	return in, first
}

// add reads a word of a form.
func (in *input) add(form byte, word string) api.Errno {
	if form == 'i' {
		n, right := field.Integer(word)
		if !right || !field.Within(n, -maxInteger, maxInteger) {
			return api.ErrSyntax
		}
		in.ints = append(in.ints, n)
		return api.OK
	}
	v, e := field.ParseNumber(word)
	in.reals = append(in.reals, v)
	return e
}

// change makes a field that of the session, if it has no error.
func (s *session) change(f api.Field, e api.Errno) (string, api.Errno) {
	if e != api.OK {
		return "", e
	}
	s.earlier = append(s.earlier, s.field)
	if len(s.earlier) > maxUndo {
		s.earlier = s.earlier[1:]
	}
	s.field = f
	return "", api.OK
}
