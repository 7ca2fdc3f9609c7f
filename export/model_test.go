package export_test

import (
	"fmt"
	"hash/adler32"
	"regexp"
	"slices"
	"strconv"
	"strings"

	"tarnfell/api"
	"tarnfell/export"
	"tarnfell/field"
	"tarnfell/level"
	"tarnfell/recipe"
	"tarnfell/road"
	"tarnfell/water"
)

// model is a session, written down another time. All fields that have been stand in past, the one that is at the end.
type model struct {
	lines  []string
	past   []api.Field
	undone int
	camera api.Camera
	scale  api.Scaling
	graphs []api.Graph
}

var (
	integers = regexp.MustCompile(`^(0|-?[1-9][0-9]{0,8})$`)
	decimals = regexp.MustCompile(`^-?[0-9]+(\.[0-9]+)?(e[+-]?[0-9]{1,3})?$`)
)

// forms tell which lines there are: an integer is #, a number is %.
var forms = []string{
	"recipe #", "eval # # # #", "field #", "show", "sum", "range", "camera % % % % % % %", "draw # #", "scale % % #", "loss #", "fill %", "carve % % % #", "way # # # #", "mesh %", "hit", "height %", "undo",
}

// parse gives the words of a line, if it has one of the forms.
func parse(line string) (name string, ints []int, reals []float32, e api.Errno) {
	words := strings.Split(line, " ")
	i := slices.IndexFunc(forms, func(form string) bool { return strings.Split(form, " ")[0] == words[0] })
	if i < 0 || len(strings.Split(forms[i], " ")) != len(words) {
		return "", nil, nil, api.ErrSyntax
	}
	for k, form := range strings.Split(forms[i], " ")[1:] {
		word := words[k+1]
		switch {
		case form == "#" && integers.MatchString(word):
			n, _ := strconv.Atoi(word)
			ints = append(ints, n)
		case form == "%" && decimals.MatchString(word) && len(word) <= 100:
			v, _ := strconv.ParseFloat(word, 32)
			reals = append(reals, float32(v))
			if !isHeight(float32(v)) {
				e = api.ErrRange
			}
		default:
			return "", nil, nil, api.ErrSyntax
		}
	}
	return words[0], ints, reals, e
}

func sessionOf(text string) string {
	if len(text) > api.MaxText {
		return "error 4\n"
	}
	m := &model{
		lines: strings.Split(text, "\n"), past: []api.Field{row(0)},
		camera: api.Camera{X: 0, Y: 0, H: 10, DX: 1, DY: 0, DH: -1, Zoom: 10}, scale: api.Scaling{Low: 0, Step: 1, Bits: 16},
	}
	if last := len(m.lines) - 1; m.lines[last] == "" {
		m.lines = m.lines[:last]
	}
	var out strings.Builder
	for len(m.lines) > 0 {
		line := m.lines[0]
		m.lines = m.lines[1:]
		if line == "" {
			continue
		}
		name, ints, reals, e := parse(line)
		written := ""
		if e == api.OK {
			written, e = m.do(name, ints, reals)
		}
		if e != api.OK {
			written = fmt.Sprintf("error %d\n", e)
		}
		out.WriteString(written)
	}
	return out.String()
}

// block takes lines, and puts line feeds behind them.
func (m *model) block(many int) (string, bool) {
	if many > len(m.lines) {
		m.lines = nil
		return "", false
	}
	l := m.lines[:max(0, many)]
	m.lines = m.lines[len(l):]
	text := ""
	for _, line := range l {
		text += line + "\n"
	}
	return text, true
}

func (m *model) now() api.Field { return m.past[len(m.past)-1] }

func (m *model) put(f api.Field, e api.Errno) (string, api.Errno) {
	if e == api.OK {
		m.past = append(m.past, f)
		m.undone = max(0, m.undone-1)
	}
	return "", e
}

func decimal(v float32) string { return strconv.FormatFloat(float64(v), 'g', -1, 32) }

func (m *model) do(name string, i []int, v []float32) (string, api.Errno) {
	f := m.now()
	switch name {
	case "recipe", "field":
		text, whole := m.block(i[0])
		if !whole {
			return "", api.ErrSyntax
		}
		if name == "field" {
			g, _, e := field.Parse(text)
			return m.put(g, e)
		}
		r, _, e := recipe.Parse(text)
		if e == api.OK {
			g, _ := recipe.Compile(r)
			m.graphs = append(m.graphs, g)
		}
		return "", e
	case "eval":
		if len(m.graphs) == 0 {
			return "", api.ErrState
		}
		return m.put(recipe.Eval(m.graphs[len(m.graphs)-1], region(i[0], i[1], i[2], i[3])))
	case "show":
		return field.Print(f)
	case "sum":
		text, _, _ := fileOf(f, api.FormatFull, api.Scaling{})
		return fmt.Sprintln(adler32.Checksum([]byte(text))), api.OK
	case "range":
		low, high, e := field.Range(f)
		return decimal(low) + " " + decimal(high) + "\n", e
	case "fill":
		return m.put(water.Filled(f, v[0]))
	case "carve":
		return m.put(water.Carve(f, api.Carving{Rate: v[0], Least: v[1], Most: v[2], Steps: i[0]}))
	case "undo":
		if len(m.past) == 1 || m.undone == 20 {
			return "", api.ErrState
		}
		m.past = m.past[:len(m.past)-1]
		m.undone++
		return "", api.OK
	}
	return m.look(name, i, v)
}

// look does what leaves the field alone.
func (m *model) look(name string, i []int, v []float32) (string, api.Errno) {
	f := m.now()
	switch name {
	case "camera":
		c := api.Camera{X: v[0], Y: v[1], H: v[2], DX: v[3], DY: v[4], DH: v[5], Zoom: v[6]}
		_, _, _, e := export.Project(c, c.X, c.Y, c.H)
		if e == api.OK {
			m.camera = c
		}
		return "", e
	case "scale":
		s := api.Scaling{Low: v[0], Step: v[1], Bits: i[0]}
		e := export.CheckScale(s)
		if e == api.OK {
			m.scale = s
		}
		return "", e
	case "draw":
		return export.Draw(f, m.camera, i[0], i[1])
	case "loss":
		s := m.scale
		if i[0] < api.FormatLevels {
			s = api.Scaling{}
		}
		lost, e := export.Loss(f, i[0], s)
		return fmt.Sprintln(decimal(lost.Worst), lost.Exact, lost.Bytes), e
	case "way":
		way, price, e := road.Way(f, api.RoadRules{Grade: 1, Weight: 4, Bridge: 1}, at(i[0], i[1]), at(i[2], i[3]))
		if e != api.OK {
			return "", e
		}
		text, e := road.Print(way)
		return text + "\n" + decimal(price) + "\n", e
	case "mesh":
		l, e := level.Mesh(f, v[0])
		return fmt.Sprintln(len(l)), e
	case "hit":
		c := m.camera
		s, struck, e := level.Hit(f, api.Ray{X: c.X, Y: c.Y, H: c.H, DX: c.DX, DY: c.DY, DH: c.DH, Most: 4096})
		if !struck {
			return "none\n", e
		}
		return fmt.Sprintln(s.Cell.X, s.Cell.Y, decimal(s.T)), e
	case "height":
		l, e := level.Contour(f, v[0])
		closed := 0
		for _, c := range l {
			closed += map[bool]int{true: 1}[c.Closed]
		}
		return fmt.Sprintln(len(l), closed), e
	}
	panic("no line: " + name)
}
