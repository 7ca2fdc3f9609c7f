package water_test

import (
	"math"
	"slices"

	"tarnfell/api"
)

// This file has the document's formulas, written down another time: slow, and with each operation rounded by way of a double, which never rounds twice.

func times(a, b float32) float32 { return float32(float64(a) * float64(b)) }
func plus(a, b float32) float32  { return float32(float64(a) + float64(b)) }
func minus(a, b float32) float32 { return float32(float64(a) - float64(b)) }
func over(a, b float32) float32  { return float32(float64(a) / float64(b)) }
func root(a float32) float32     { return float32(math.Sqrt(float64(a))) }
func down(a float32) float32     { return float32(math.Floor(float64(a))) }

func lesser(a, b float32) float32 {
	if a <= b {
		return a
	}
	return b
}

// neighbour gives the number of the cell to which a direction leads, or -1.
func neighbour(r api.Region, i, d int) int {
	x := i%r.W + []int{1, 1, 0, -1, -1, -1, 0, 1}[d]
	y := i/r.W + []int{0, 1, 1, 1, 0, -1, -1, -1}[d]
	if x < 0 || y < 0 || x >= r.W || y >= r.H {
		return -1
	}
	return y*r.W + x
}

func around(r api.Region, i int) []int {
	var l []int
	for d := range 8 {
		if n := neighbour(r, i, d); n >= 0 {
			l = append(l, n)
		}
	}
	return l
}

func onBorder(r api.Region, i int) bool { return len(around(r, i)) < 8 }

func placeOf(r api.Region, i int) api.Point { return at(r.X+i%r.W, r.Y+i/r.W) }

func long(d int) float32 { return []float32{1, root2}[d%2] }

// follow gives the cells of a way down, from a cell on, and whether it ends.
func follow(r api.Region, dirs []int, i int) ([]int, bool) {
	l := []int{i}
	for dirs[i] >= 0 {
		i = neighbour(r, i, dirs[i])
		l = append(l, i)
		if len(l) > len(dirs) {
			return nil, false
		}
	}
	return l, true
}

// spilled lowers the spills until none can be lowered.
func spilled(f api.Field, slope float32) api.Field {
	w := api.Field{Region: f.Region, V: slices.Clone(f.V)}
	for i := range w.V {
		if !onBorder(f.Region, i) {
			w.V[i] = inf
		}
	}
	for changed := true; changed; {
		changed = false
		for i, h := range f.V {
			for _, n := range around(f.Region, i) {
				if v := max(h, plus(w.V[n], slope)); v < w.V[i] {
					w.V[i] = v
					changed = true
				}
			}
		}
	}
	return w
}

func dropAt(f api.Field, i int) (way int, most float32) {
	way = -1
	for d := range 8 {
		if n := neighbour(f.Region, i, d); n >= 0 {
			if v := over(minus(f.V[i], f.V[n]), long(d)); v > most {
				way, most = d, v
			}
		}
	}
	return way, most
}

func steepOf(f api.Field) []int {
	l := make([]int, len(f.V))
	for i := range l {
		l[i], _ = dropAt(f, i)
	}
	return l
}

// drained lowers the ranks until none can be lowered.
func drained(f api.Field) []int {
	w := spilled(f, 0)
	steep := steepOf(w)
	ranks := make([]int, len(steep))
	for i := range ranks {
		if steep[i] < 0 && !onBorder(w.Region, i) {
			ranks[i] = 1 << 30
		}
	}
	for changed := true; changed; {
		changed = false
		for i := range ranks {
			for _, n := range around(w.Region, i) {
				if w.V[n] == w.V[i] && ranks[n]+1 < ranks[i] {
					ranks[i] = ranks[n] + 1
					changed = true
				}
			}
		}
	}
	dirs := slices.Clone(steep)
	for i := range dirs {
		least := 1 << 30
		for d := range 8 {
			n := neighbour(w.Region, i, d)
			if steep[i] < 0 && !onBorder(w.Region, i) && n >= 0 && w.V[n] == w.V[i] && ranks[n] < least {
				dirs[i], least = d, ranks[n]
			}
		}
	}
	return dirs
}

// gathered sends the rain of each cell down its way.
func gathered(r api.Region, dirs, rain []int) []int {
	l := make([]int, len(dirs))
	for i := range dirs {
		way, _ := follow(r, dirs, i)
		for _, n := range way {
			l[n] += rain[i]
		}
	}
	return l
}

func basinsOf(r api.Region, dirs []int) (numbers []int, mouths []api.Point) {
	var ends []int
	for i, d := range dirs {
		if d < 0 {
			ends = append(ends, i)
			mouths = append(mouths, placeOf(r, i))
		}
	}
	for i := range dirs {
		way, _ := follow(r, dirs, i)
		numbers = append(numbers, slices.Index(ends, way[len(way)-1]))
	}
	return numbers, mouths
}

func farFrom(r api.Region, dirs []int, i int) float32 {
	var far float32
	way, _ := follow(r, dirs, i)
	for k := len(way) - 2; k >= 0; k-- {
		far = plus(long(dirs[way[k]]), far)
	}
	return far
}

// lakeMarks gives each cell of a lake the least number of a cell of this lake, and others -1.
func lakeMarks(f, w api.Field) []int {
	marks := make([]int, len(f.V))
	for i := range marks {
		marks[i] = i
		if w.V[i] <= f.V[i] {
			marks[i] = -1
		}
	}
	for changed := true; changed; {
		changed = false
		for i, k := range marks {
			for _, n := range around(f.Region, i) {
				if k >= 0 && marks[n] >= 0 && w.V[n] == w.V[i] && marks[n] < marks[i] {
					marks[i] = marks[n]
					changed = true
				}
			}
		}
	}
	return marks
}

func lakesOf(f api.Field, least float32) []api.Lake {
	w := spilled(f, 0)
	marks := lakeMarks(f, w)
	var l []api.Lake
	for first := range marks {
		lake := api.Lake{Level: w.V[first], First: placeOf(f.Region, first)}
		lowest := inf
		for i, k := range marks {
			if k == first {
				lake.Cells++
				lake.Volume = plus(lake.Volume, minus(w.V[i], f.V[i]))
				if f.V[i] < lowest {
					lowest, lake.Deepest, lake.Depth = f.V[i], placeOf(f.Region, i), minus(w.V[i], f.V[i])
				}
			}
		}
		if lake.Cells > 0 && lake.Depth >= least {
			l = append(l, lake)
		}
	}
	return l
}

// shoresOf gives the shores of all lakes.
func shoresOf(f api.Field) [][]api.Point {
	marks := lakeMarks(f, spilled(f, 0))
	var l [][]api.Point
	for first := range marks {
		if marks[first] != first {
			continue
		}
		var shore []api.Point
		for i, k := range marks {
			if k != first && slices.ContainsFunc(around(f.Region, i), func(n int) bool { return marks[n] == first }) {
				shore = append(shore, placeOf(f.Region, i))
			}
		}
		l = append(l, shore)
	}
	return l
}

// riversOf asks of each cell how many streams lead to it, and of each river which ones end where it begins.
func riversOf(r api.Region, dirs, amounts []int, least int) []api.River {
	into := func(i int) int {
		many := 0
		for n, d := range dirs {
			if d >= 0 && amounts[n] >= least && neighbour(r, n, d) == i {
				many++
			}
		}
		return many
	}
	var l []api.River
	for i, amount := range amounts {
		many := into(i)
		if amount < least || many == 1 || many > 1 && dirs[i] < 0 {
			continue
		}
		v := api.River{Points: []api.Point{placeOf(r, i)}, Amount: amount, Into: -1}
		for n := i; dirs[n] >= 0; {
			v.Amount = amounts[n]
			n = neighbour(r, n, dirs[n])
			v.Points = append(v.Points, placeOf(r, n))
			if into(n) > 1 {
				break
			}
		}
		l = append(l, v)
	}
	for i := range l {
		end := l[i].Points[len(l[i].Points)-1]
		for k := range l {
			if k != i && l[k].Points[0] == end {
				l[i].Into = k
			}
		}
	}
	for i := range l {
		l[i].Order = orderOf(l, i)
	}
	return l
}

func orderOf(l []api.River, i int) int {
	var orders []int
	for k := range l {
		if l[k].Into == i {
			orders = append(orders, orderOf(l, k))
		}
	}
	if len(orders) == 0 {
		return 1
	}
	slices.Sort(orders)
	greatest := orders[len(orders)-1]
	if len(orders) > 1 && orders[len(orders)-2] == greatest {
		return greatest + 1
	}
	return greatest
}

func depthOf(c api.Carving, amount int, drop float32) float32 {
	if amount < 1 || !(drop > 0) {
		return 0
	}
	d := times(times(c.Rate, root(float32(amount))), drop)
	if d < c.Least {
		return 0
	}
	return lesser(lesser(d, c.Most), times(drop, 0.5))
}

func carvedOnce(f api.Field, c api.Carving) api.Field {
	dirs := drained(f)
	amounts := gathered(f.Region, dirs, slices.Repeat([]int{1}, len(dirs)))
	g := api.Field{Region: f.Region, V: slices.Clone(f.V)}
	for i, v := range f.V {
		var drop float32
		if dirs[i] >= 0 {
			drop = max(0, minus(v, f.V[neighbour(f.Region, i, dirs[i])]))
		}
		g.V[i] = minus(v, depthOf(c, amounts[i], drop))
	}
	return g
}

func breached(f api.Field, step float32) api.Field {
	dirs := drained(f)
	g := api.Field{Region: f.Region, V: slices.Clone(f.V)}
	for i := range g.V {
		if onBorder(f.Region, i) || slices.ContainsFunc(around(f.Region, i), func(n int) bool { return g.V[n] < g.V[i] }) {
			continue
		}
		v := g.V[i]
		way, _ := follow(f.Region, dirs, i)
		for _, n := range way[1:] {
			if g.V[n] <= minus(v, step) {
				break
			}
			v = minus(v, step)
			g.V[n] = v
		}
	}
	return g
}

func bedded(f api.Field, l []api.River, amounts []int, depth float32) api.Field {
	g := api.Field{Region: f.Region, V: slices.Clone(f.V)}
	for i, v := range f.V {
		for _, river := range l {
			for k, p := range river.Points {
				if p == placeOf(f.Region, i) && (river.Into < 0 || k < len(river.Points)-1) {
					g.V[i] = minus(v, over(times(depth, root(float32(amounts[i]))), root(float32(slices.Max(amounts)))))
				}
			}
		}
	}
	return g
}

func snowOn(f api.Field, s api.Snow) api.Field {
	g := api.Field{Region: f.Region, V: make([]float32, len(f.V))}
	for i, v := range f.V {
		d := times(minus(v, s.Line), s.Rate)
		if !(d > 0) {
			continue
		}
		d = lesser(d, s.Most)
		var rough float32
		for _, way := range []int{0, 2, 4, 6} {
			if n := neighbour(f.Region, i, way); n >= 0 {
				rough = max(rough, float32(math.Abs(float64(minus(v, f.V[n])))))
			}
		}
		if rough < s.Hold {
			g.V[i] = times(d, minus(1, over(rough, s.Hold)))
		}
	}
	return g
}
