package tile_test

import (
	"hash/fnv"
	"math"
	"slices"
	"strconv"
	"strings"

	"tarnfell/api"
	"tarnfell/field"
	"tarnfell/recipe"
)

// This file has the document's rules, written down another time: slow, cell by cell, and with each operation rounded by way of a double, which never rounds twice.

func times(a, b float32) float32 { return float32(float64(a) * float64(b)) }
func plus(a, b float32) float32  { return float32(float64(a) + float64(b)) }
func minus(a, b float32) float32 { return float32(float64(a) - float64(b)) }
func over(a, b float32) float32  { return float32(float64(a) / float64(b)) }
func root(a float32) float32     { return float32(math.Sqrt(float64(a))) }

// weightOf is that of P48.
func weightOf(b api.Brush, x, y int) float32 {
	d := (x-b.X)*(x-b.X) + (y-b.Y)*(y-b.Y)
	r := b.Radius * b.Radius
	if d >= r {
		return 0
	}
	switch b.Kind {
	case api.BrushCone:
		return minus(1, over(root(float32(d)), float32(b.Radius)))
	case api.BrushBell:
		t := minus(1, over(float32(d), float32(r)))
		return times(t, t)
	}
	return 1
}

// ground has the values of cells behind so many edits, by their places.
type ground struct {
	f     api.Field
	l     []api.Edit
	known map[spot]float32
}

type spot struct{ k, x, y int }

func (g ground) behind(k, x, y int) float32 {
	if k == 0 {
		return valueAt(g.f, x, y)
	}
	s := spot{k, x, y}
	v, known := g.known[s]
	if !known {
		v = g.edited(k, x, y)
		g.known[s] = v
	}
	return v
}

func (g ground) edited(k, x, y int) float32 {
	e := g.l[k-1]
	v, w := g.behind(k-1, x, y), weightOf(e.Brush, x, y)
	if w == 0 {
		return v
	}
	switch e.Kind {
	case api.EditRaise:
		return plus(v, times(e.Brush.Height, w))
	case api.EditLevel:
		return plus(v, times(minus(e.Target, v), w))
	case api.EditSet:
		return e.Target
	}
	north, south := g.behind(k-1, x, y-1), g.behind(k-1, x, y+1)
	west, east := g.behind(k-1, x-1, y), g.behind(k-1, x+1, y)
	m := times(plus(plus(north, west), plus(east, south)), 0.25)
	return plus(v, times(minus(m, v), w))
}

func softens(l []api.Edit) int {
	many := 0
	for _, e := range l {
		if e.Kind == api.EditSoften {
			many++
		}
	}
	return many
}

// applied is Apply of right edits to a right field which is large enough.
func applied(f api.Field, l []api.Edit) (api.Field, api.Errno) {
	g := ground{f, l, map[spot]float32{}}
	r := grown(f.Region, -softens(l))
	h := api.Field{Region: r}
	for i := range r.W * r.H {
		v := g.behind(len(l), r.X+i%r.W, r.Y+i/r.W)
		if !isHeight(v) {
			return api.Field{}, api.ErrRange
		}
		h.V = append(h.V, v)
	}
	return h, api.OK
}

// wholeOf is Whole of a right graph and right edits, with margins that are not too great.
func wholeOf(g api.Graph, l []api.Edit, r api.Region) (api.Field, api.Errno) {
	margin, _ := recipe.Margin(g)
	if e := field.CheckRegion(grown(r, margin+softens(l))); e != api.OK {
		return api.Field{}, e
	}
	f, e := recipe.Eval(g, grown(r, softens(l)))
	if e != api.OK {
		return api.Field{}, e
	}
	return applied(f, l)
}

// floor is the quotient rounded down, b above 0.
func floor(a, b int) int { return int(math.Floor(float64(a) / float64(b))) }

// tilesOf has the parts of a region, which are found cell by cell.
func tilesOf(r api.Region, side int) []api.Region {
	parts := map[api.Point]api.Region{}
	var order []api.Point
	for y := r.Y; y < r.Y+r.H; y++ {
		for x := r.X; x < r.X+r.W; x++ {
			p := api.Point{X: floor(x, side), Y: floor(y, side)}
			part, known := parts[p]
			if !known {
				part = region(x, y, 1, 1)
				order = append(order, p)
			}
			part.W, part.H = max(part.W, x-part.X+1), max(part.H, y-part.Y+1)
			parts[p] = part
		}
	}
	slices.SortFunc(order, func(a, b api.Point) int {
		if a.Y != b.Y {
			return a.Y - b.Y
		}
		return a.X - b.X
	})
	var l []api.Region
	for _, p := range order {
		l = append(l, parts[p])
	}
	return l
}

func reachOf(l []api.Edit, k int) api.Region {
	b := l[k].Brush
	return grown(region(b.X, b.Y, 1, 1), b.Radius-1+softens(l[k+1:]))
}

func digestOf(text string) string {
	h := fnv.New64a()
	h.Write([]byte(text))
	s := strconv.FormatUint(h.Sum64(), 16)
	return strings.Repeat("0", 16-len(s)) + s
}

func lineOf(e api.Edit) string {
	hex := func(v float32) string {
		s := strconv.FormatUint(uint64(math.Float32bits(v)), 16)
		return strings.Repeat("0", 8-len(s)) + s
	}
	words := []string{
		map[int]string{api.EditRaise: "raise", api.EditLevel: "level", api.EditSoften: "soften", api.EditSet: "set"}[e.Kind],
		map[int]string{api.BrushFlat: "flat", api.BrushCone: "cone", api.BrushBell: "bell"}[e.Brush.Kind],
		strconv.Itoa(e.Brush.X), strconv.Itoa(e.Brush.Y), strconv.Itoa(e.Brush.Radius), hex(e.Brush.Height), hex(e.Target),
	}
	return strings.Join(words, " ")
}

// model is a world that does all things the slow way.
type model struct {
	g            api.Graph
	r            api.Region
	tiles        []api.Region
	done, undone []api.Edit
	lines        []string
	kept         []keep // that which was asked for longest ago first
	made         int
}

type keep struct {
	key string
	f   api.Field
}

func newModel(g api.Graph, r api.Region, side int) *model {
	return &model{g: g, r: r, tiles: tilesOf(r, side)}
}

func (m *model) note(text string) {
	before := ""
	if n := len(m.lines); n > 0 {
		before = m.lines[n-1][len(m.lines[n-1])-16:]
	}
	m.lines = append(m.lines, text+" "+digestOf(before+text))
}

func (m *model) journal() string {
	text := ""
	for _, line := range m.lines {
		text += line + "\n"
	}
	return text
}

func (m *model) edit(e api.Edit) api.Errno {
	if len(m.done) >= 500 || e.Kind == api.EditSoften && softens(m.done) >= 50 {
		return api.ErrFull
	}
	m.done, m.undone = append(slices.Clone(m.done), e), nil
	m.note(lineOf(e))
	return api.OK
}

func (m *model) undo() api.Errno {
	n := len(m.done)
	if n == 0 {
		return api.ErrEmpty
	}
	m.undone = append(m.undone, m.done[n-1])
	m.done = m.done[:n-1]
	m.note("undo")
	return api.OK
}

func (m *model) redo() api.Errno {
	n := len(m.undone)
	if n == 0 {
		return api.ErrEmpty
	}
	m.done = append(slices.Clone(m.done), m.undone[n-1])
	m.undone = m.undone[:n-1]
	m.note("redo")
	return api.OK
}

func (m *model) touching(k int) []api.Edit {
	var l []api.Edit
	for i, e := range m.done {
		if touches(reachOf(m.done, i), m.tiles[k]) {
			l = append(l, e)
		}
	}
	return l
}

func (m *model) key(k int) string {
	text, _ := recipe.Key(m.g)
	r := m.tiles[k]
	text += "\n" + strconv.Itoa(r.X) + " " + strconv.Itoa(r.Y) + " " + strconv.Itoa(r.W) + " " + strconv.Itoa(r.H) + "\n"
	for _, e := range m.touching(k) {
		text += lineOf(e) + "\n"
	}
	return digestOf(text)
}

func (m *model) find(key string) int {
	return slices.IndexFunc(m.kept, func(p keep) bool { return p.key == key })
}

func (m *model) stale() []int {
	var l []int
	for k := range m.tiles {
		if m.find(m.key(k)) < 0 {
			l = append(l, k)
		}
	}
	return l
}

// tile is told whether the field was made.
func (m *model) tile(k int) (api.Field, bool, api.Errno) {
	key := m.key(k)
	if i := m.find(key); i >= 0 {
		p := m.kept[i]
		m.kept = append(slices.Delete(slices.Clone(m.kept), i, i+1), p)
		return p.f, false, api.OK
	}
	f, e := wholeOf(m.g, m.touching(k), m.tiles[k])
	if e != api.OK {
		return api.Field{}, false, e
	}
	m.kept = append(m.kept, keep{key, f})
	m.made++
	return f, true, api.OK
}

func (m *model) build() (int, api.Errno) {
	many, first := 0, api.OK
	for k := range m.tiles {
		_, isNew, e := m.tile(k)
		if isNew {
			many++
		}
		if first == api.OK {
			first = e
		}
	}
	return many, first
}

func (m *model) join() (api.Field, api.Errno) {
	kept, made := slices.Clone(m.kept), m.made
	whole := flatField(m.r, 0)
	for k, r := range m.tiles {
		f, _, e := m.tile(k)
		if e != api.OK {
			m.kept, m.made = kept, made
			return api.Field{}, e
		}
		for i, v := range f.V {
			x, y := r.X+i%r.W, r.Y+i/r.W
			whole.V[(y-m.r.Y)*m.r.W+x-m.r.X] = v
		}
	}
	return whole, api.OK
}

func (m *model) forget(most int) int {
	drop := max(0, len(m.kept)-most)
	m.kept = m.kept[drop:]
	return drop
}
