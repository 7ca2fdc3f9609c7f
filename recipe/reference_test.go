package recipe_test

import (
	"math"
	"slices"

	"tarnfell/api"
	"tarnfell/field"
	"tarnfell/noise"
	"tarnfell/shape"
)

// This file has the document's rules, written down another time: slow, cell by cell and way by way, and with each operation rounded by way of a double, which never rounds twice.

func times(a, b float32) float32 { return float32(float64(a) * float64(b)) }
func plus(a, b float32) float32  { return float32(float64(a) + float64(b)) }
func minus(a, b float32) float32 { return float32(float64(a) - float64(b)) }
func over(a, b float32) float32  { return float32(float64(a) / float64(b)) }
func root(a float32) float32     { return float32(math.Sqrt(float64(a))) }
func abs(a float32) float32      { return float32(math.Abs(float64(a))) }

func sum(v float32, more ...float32) float32 {
	for _, w := range more {
		v = plus(v, w)
	}
	return v
}

func least(v float32, more ...float32) float32 {
	for _, w := range more {
		if w < v {
			v = w
		}
	}
	return v
}

func greatest(v float32, more ...float32) float32 {
	for _, w := range more {
		if w > v {
			v = w
		}
	}
	return v
}

func isHeight(v float32) bool { return v >= -top && v <= top }

func fractalOf(n api.Node) api.Fractal {
	return api.Fractal{Kind: n.Ints[0], Seed: uint32(n.Ints[1]), Cell: n.Ints[2], Octaves: n.Ints[3], Gain: n.Reals[0]}
}

func warpOf(n api.Node) api.Warp { return api.Warp{Fractal: fractalOf(n), Amount: n.Reals[1]} }

func brushOf(n api.Node) api.Brush {
	return api.Brush{Kind: n.Ints[0], X: n.Ints[1], Y: n.Ints[2], Radius: n.Ints[3], Height: n.Reals[0]}
}

func faultOf(n api.Node) api.Fault {
	return api.Fault{A: n.Ints[0], B: n.Ints[1], C: n.Ints[2], Width: n.Ints[3], Throw: n.Reals[0]}
}

func foldOf(n api.Node) api.Fold {
	return api.Fold{A: n.Ints[0], B: n.Ints[1], Period: n.Ints[2], Height: n.Reals[0]}
}

func wearOf(n api.Node) api.Wear {
	return api.Wear{Talus: n.Reals[0], Rate: n.Reals[1], Steps: n.Ints[0]}
}

// marginOf has the column 'margin' of P140.
func marginOf(n api.Node) int {
	switch n.Op {
	case "shift":
		return int(math.Max(math.Abs(float64(n.Ints[0])), math.Abs(float64(n.Ints[1]))))
	case "blur", "thermal", "smooth":
		return n.Ints[0]
	case "kernel":
		return (n.Ints[0] - 1) / 2
	case "slope", "curve", "shade":
		return 1
	case "warp":
		m, _ := noise.Margin(warpOf(n))
		return m
	}
	return 0
}

// needOf is the greatest sum on the ways from one node down to another one, or -1. It goes all ways.
func needOf(g api.Graph, from, to int) int {
	if from == to {
		return 0
	}
	most := -1
	for _, k := range g.Nodes[from].In {
		if n := needOf(g, k, to); n >= 0 {
			most = max(most, n+marginOf(g.Nodes[from]))
		}
	}
	return most
}

func needsOf(g api.Graph) []int {
	var l []int
	for i := range g.Nodes {
		l = append(l, needOf(g, g.Out, i))
	}
	return l
}

// deepest is the margin of P143: it goes all ways down to their ends.
func deepest(g api.Graph, from int) int {
	most := 0
	for _, k := range g.Nodes[from].In {
		most = max(most, deepest(g, k))
	}
	return most + marginOf(g.Nodes[from])
}

// land has the values of the nodes of a graph by their places.
type land struct {
	g     api.Graph
	known map[spot]worth
}

type spot struct{ node, x, y int }

type worth struct {
	v float32
	e api.Errno
}

func newLand(g api.Graph) land { return land{g, map[spot]worth{}} }

func (l land) at(node, x, y int) worth {
	s := spot{node, x, y}
	w, known := l.known[s]
	if !known {
		w = l.find(l.g.Nodes[node], x, y)
		if w.e == api.OK && !isHeight(w.v) {
			w = worth{0, api.ErrRange}
		}
		l.known[s] = w
	}
	return w
}

func (l land) find(n api.Node, x, y int) worth {
	if n.Op == "warp" {
		p, e := noise.Warp(warpOf(n), x, y)
		if e != api.OK {
			return worth{0, e}
		}
		return l.at(n.In[0], p.X, p.Y)
	}
	if n.Op == "shift" {
		return l.at(n.In[0], x+n.Ints[0], y+n.Ints[1])
	}
	if marginOf(n) > 0 {
		return l.look(n, x, y)
	}
	var in []float32
	for _, k := range n.In {
		w := l.at(k, x, y)
		if w.e != api.OK {
			return w
		}
		in = append(in, w.v)
	}
	v, e := madeOf(n, in, x, y)
	return worth{v, e}
}

// look has the square around a cell that a node with a margin needs, and no cell more.
func (l land) look(n api.Node, x, y int) worth {
	m := marginOf(n)
	f := api.Field{Region: region(x-m, y-m, 2*m+1, 2*m+1)}
	for i := range f.W * f.H {
		w := l.at(n.In[0], f.X+i%f.W, f.Y+i/f.W)
		if w.e != api.OK {
			return w
		}
		f.V = append(f.V, w.v)
	}
	var g api.Field
	var e api.Errno
	switch n.Op {
	case "blur":
		g, e = field.Blur(f, n.Ints[0])
	case "kernel":
		g, e = field.Kernel(f, n.Reals, n.Ints[0])
	case "slope":
		g, e = shape.Slope(f)
	case "curve":
		g, e = shape.Curve(f)
	case "shade":
		g, e = shape.Shade(f, n.Ints[0], n.Ints[1], n.Ints[2])
	case "thermal":
		g, e = shape.Thermal(f, wearOf(n))
	case "smooth":
		g, e = shape.Smooth(f, n.Ints[0])
	}
	if e != api.OK {
		return worth{0, e}
	}
	return worth{valueAt(g, x, y), api.OK}
}

// one is what a function makes of a field of one cell.
func one(v float32, x, y int, of func(f api.Field) (api.Field, api.Errno)) (float32, api.Errno) {
	g, e := of(api.Field{Region: region(x, y, 1, 1), V: []float32{v}})
	if e != api.OK {
		return 0, e
	}
	return g.V[0], api.OK
}

// madeOf is the value that a node without a margin makes of those of its In.
func madeOf(n api.Node, in []float32, x, y int) (float32, api.Errno) {
	switch n.Op {
	case "const":
		return n.Reals[0], api.OK
	case "noise":
		return noise.Fractal(fractalOf(n), x, y)
	case "speckle":
		if noise.Unit(noise.Hash(uint32(n.Ints[0]), x, y, 9)) < n.Reals[0] {
			return 1, api.OK
		}
		return 0, api.OK
	case "add":
		return plus(in[0], in[1]), api.OK
	case "sub":
		return minus(in[0], in[1]), api.OK
	case "mul":
		return times(in[0], in[1]), api.OK
	case "div":
		if in[1] == 0 {
			return 0, api.ErrRange
		}
		return over(in[0], in[1]), api.OK
	case "less":
		return least(in[0], in[1]), api.OK
	case "more":
		return greatest(in[0], in[1]), api.OK
	case "over":
		if in[0] > in[1] {
			return 1, api.OK
		}
		return 0, api.OK
	case "blend":
		if in[2] < 0 || in[2] > 1 {
			return 0, api.ErrRange
		}
		return plus(in[0], times(minus(in[1], in[0]), in[2])), api.OK
	}
	return change(n, in[0], x, y)
}

func change(n api.Node, v float32, x, y int) (float32, api.Errno) {
	switch n.Op {
	case "scale":
		return plus(times(v, n.Reals[0]), n.Reals[1]), api.OK
	case "clamp":
		if v < n.Reals[0] {
			return n.Reals[0], api.OK
		}
		return least(v, n.Reals[1]), api.OK
	case "select":
		return one(v, x, y, func(f api.Field) (api.Field, api.Errno) {
			return shape.Select(f, n.Reals[0], n.Reals[1], n.Reals[2])
		})
	case "terrace":
		return one(v, x, y, func(f api.Field) (api.Field, api.Errno) { return shape.Terrace(f, n.Reals[0], n.Reals[1]) })
	case "dither":
		return one(v, x, y, func(f api.Field) (api.Field, api.Errno) { return noise.Dither(f, uint32(n.Ints[0]), n.Reals[0]) })
	case "stamp":
		w, e := shape.Weight(brushOf(n), x, y)
		return plus(v, times(n.Reals[0], w)), e
	case "fault":
		w, e := shape.Throw(faultOf(n), x, y)
		return plus(v, w), e
	case "fold":
		w, e := shape.Lift(foldOf(n), x, y)
		return plus(v, w), e
	case "kernel":
		return times(v, n.Reals[0]), api.OK
	}
	// blur, thermal and smooth without a margin
	return v, api.OK
}

// worked has the fields of all nodes of a graph (P143, P146), or the error of the first one that has one.
func worked(g api.Graph, at api.Region) ([]api.Field, api.Errno) {
	l := newLand(g)
	var fields []api.Field
	for i, need := range needsOf(g) {
		var f api.Field
		if need >= 0 {
			f.Region = smaller(at, -need)
			for k := range f.W * f.H {
				w := l.at(i, f.X+k%f.W, f.Y+k/f.W)
				if w.e != api.OK {
					return nil, w.e
				}
				f.V = append(f.V, w.v)
			}
		}
		fields = append(fields, f)
	}
	return fields, api.OK
}

// compileAgain has the stages of P144.
func compileAgain(r api.Recipe) api.Graph {
	return rebuilt(rebuilt(graphOf(r), placeOf), placeAtEnd)
}

// rebuilt has what place makes, node by node, of those that Out hangs on (stage 1, stage 5).
func rebuilt(g api.Graph, place func(stays *[]api.Node, n api.Node) int) api.Graph {
	var stays []api.Node
	places := map[int]int{}
	for i, n := range g.Nodes {
		if needOf(g, g.Out, i) < 0 {
			continue
		}
		var in []int
		for _, k := range n.In {
			in = append(in, places[k])
		}
		n.In = in
		places[i] = place(&stays, n)
	}
	return api.Graph{Nodes: stays, Out: places[g.Out]}
}

func placeAtEnd(stays *[]api.Node, n api.Node) int {
	*stays = append(*stays, n)
	return len(*stays) - 1
}

func placeOf(stays *[]api.Node, n api.Node) int {
	if input := onlyInput(*stays, n); input >= 0 {
		return input
	}
	if v, some := constOf(*stays, n); some {
		n = api.Node{Op: "const", Reals: []float32{v}}
	}
	if i := slices.IndexFunc(*stays, func(m api.Node) bool { return sameNode(n, m) }); i >= 0 {
		return i
	}
	return placeAtEnd(stays, n)
}

// onlyInput gives what a node gives way to in stage 2, or -1.
func onlyInput(stays []api.Node, n api.Node) int {
	has := func(k int, v float32) bool {
		m := stays[n.In[k]]
		return m.Op == "const" && sameBits(m.Reals[0], v)
	}
	for _, rule := range []struct {
		op    string
		holds func() bool
		input int
	}{
		{"mul", func() bool { return has(0, 1) }, 1},
		{"mul", func() bool { return has(1, 1) }, 0},
		{"div", func() bool { return has(1, 1) }, 0},
		{"sub", func() bool { return has(1, 0) }, 0},
		{"add", func() bool { return has(0, minusZero) }, 1},
		{"add", func() bool { return has(1, minusZero) }, 0},
		{"less", func() bool { return n.In[0] == n.In[1] }, 0},
		{"more", func() bool { return n.In[0] == n.In[1] }, 0},
		{"shift", func() bool { return slices.Equal(n.Ints, []int{0, 0}) }, 0},
		{"blur", func() bool { return slices.Equal(n.Ints, []int{0}) }, 0},
		{"smooth", func() bool { return slices.Equal(n.Ints, []int{0}) }, 0},
		{"thermal", func() bool { return slices.Equal(n.Ints, []int{0}) }, 0},
		{"kernel", func() bool { return slices.Equal(n.Reals, []float32{1}) }, 0},
	} {
		if rule.op == n.Op && rule.holds() {
			return n.In[rule.input]
		}
	}
	return -1
}

// constOf gives what a node is worth in stage 3.
func constOf(stays []api.Node, n api.Node) (float32, bool) {
	if !slices.Contains([]string{"add", "sub", "mul", "div", "less", "more", "over", "scale", "clamp", "blend", "select", "terrace"}, n.Op) {
		return 0, false
	}
	var in []float32
	for _, k := range n.In {
		if stays[k].Op != "const" {
			return 0, false
		}
		in = append(in, stays[k].Reals[0])
	}
	v, e := madeOf(n, in, 5, -3)
	return v, e == api.OK && isHeight(v)
}

// ends are a lower and an upper bound.
type ends struct{ low, high float32 }

// boundsAgain has the rules of P147.
func boundsAgain(g api.Graph) []ends {
	var l []ends
	for i, n := range g.Nodes {
		if needOf(g, g.Out, i) < 0 {
			l = append(l, ends{})
			continue
		}
		var in []ends
		for _, k := range n.In {
			in = append(in, l[k])
		}
		s := boundsOf(n, in)
		if !isHeight(s.low) {
			s.low = -top
		}
		if !isHeight(s.high) {
			s.high = top
		}
		l = append(l, s)
	}
	return l
}

func boundsOf(n api.Node, in []ends) ends {
	switch n.Op {
	case "const":
		return ends{n.Reals[0], n.Reals[0]}
	case "noise":
		r, _ := noise.Reach(fractalOf(n))
		return ends{-r, r}
	case "speckle", "over", "select":
		return ends{0, 1}
	case "shade":
		return ends{0, 1.0001}
	}
	if len(in) == 1 {
		return boundsOfChange(n, in[0].low, in[0].high)
	}
	a, A, b, B := in[0].low, in[0].high, in[1].low, in[1].high
	switch n.Op {
	case "add":
		return ends{plus(a, b), plus(A, B)}
	case "sub":
		return ends{minus(a, B), minus(A, b)}
	case "mul":
		return ends{least(times(a, b), times(a, B), times(A, b), times(A, B)), greatest(times(a, b), times(a, B), times(A, b), times(A, B))}
	case "div":
		if b > 0 || B < 0 {
			return ends{least(over(a, b), over(a, B), over(A, b), over(A, B)), greatest(over(a, b), over(a, B), over(A, b), over(A, B))}
		}
		return ends{-top, top}
	case "less":
		return ends{least(a, b), least(A, B)}
	case "more":
		return ends{greatest(a, b), greatest(A, B)}
	}
	l, h := least(a, b), greatest(A, B)
	e := plus(times(minus(h, l), 0x1p-20), times(greatest(abs(l), abs(h)), 0x1p-20))
	return ends{minus(l, e), plus(h, e)}
}

func boundsOfChange(n api.Node, a, A float32) ends {
	switch n.Op {
	case "scale":
		v, w := plus(times(a, n.Reals[0]), n.Reals[1]), plus(times(A, n.Reals[0]), n.Reals[1])
		return ends{least(v, w), greatest(v, w)}
	case "clamp", "terrace":
		low, e := change(n, a, 0, 0)
		high, f := change(n, A, 0, 0)
		if e != api.OK {
			low = nan
		}
		if f != api.OK {
			high = nan
		}
		return ends{low, high}
	case "dither":
		l, h := minus(a, n.Reals[0]), plus(A, n.Reals[0])
		m := times(greatest(abs(l), abs(h)), 0x1p-20)
		return ends{minus(l, m), plus(h, m)}
	case "stamp", "fault", "fold":
		h := times(n.Reals[0], 1.0001)
		if h < 0 {
			return ends{plus(a, h), A}
		}
		return ends{a, plus(A, h)}
	case "blur":
		many := int(math.Pow(float64(2*n.Ints[0]+1), 2))
		return ends{over(sum(a, slices.Repeat([]float32{a}, many-1)...), float32(many)), over(sum(A, slices.Repeat([]float32{A}, many-1)...), float32(many))}
	case "kernel":
		var low, high []float32
		for _, k := range n.Reals {
			low = append(low, least(times(k, a), times(k, A)))
			high = append(high, greatest(times(k, a), times(k, A)))
		}
		return ends{sum(low[0], low[1:]...), sum(high[0], high[1:]...)}
	case "slope":
		d := times(minus(A, a), 0.5)
		return ends{0, root(plus(times(d, d), times(d, d)))}
	case "curve":
		return ends{minus(times(sum(a, a, a, a), 0.25), A), minus(times(sum(A, A, A, A), 0.25), a)}
	case "thermal", "smooth":
		for range n.Ints[0] {
			m := times(greatest(abs(a), abs(A)), 0x1p-18)
			a, A = minus(a, m), plus(A, m)
		}
	}
	return ends{a, A}
}
