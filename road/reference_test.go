package road_test

import (
	"cmp"
	"math"
	"slices"
	"strconv"

	"tarnfell/api"
)

// This file has the document's formulas, written down another time: slow, and with each operation rounded by way of a double, which never rounds twice.

func times(a, b float32) float32 { return float32(float64(a) * float64(b)) }
func plus(a, b float32) float32  { return float32(float64(a) + float64(b)) }
func minus(a, b float32) float32 { return float32(float64(a) - float64(b)) }
func over(a, b float32) float32  { return float32(float64(a) / float64(b)) }
func root(a float32) float32     { return float32(math.Sqrt(float64(a))) }
func size(a float32) float32     { return float32(math.Abs(float64(a))) }

func lesser(a, b float32) float32 {
	if a <= b {
		return a
	}
	return b
}

func greater(a, b float32) float32 {
	if a >= b {
		return a
	}
	return b
}

func covers(r api.Region, p api.Point) bool {
	return p.X >= r.X && p.Y >= r.Y && p.X < r.X+r.W && p.Y < r.Y+r.H
}

func placeOf(r api.Region, i int) api.Point { return at(r.X+i%r.W, r.Y+i/r.W) }

func valueAt(f api.Field, p api.Point) float32 { return f.V[(p.Y-f.Y)*f.W+p.X-f.X] }

// ahead is the place k steps away in the direction d.
func ahead(p api.Point, d, k int) api.Point {
	return at(p.X+k*[]int{1, 1, 0, -1, -1, -1, 0, 1}[d], p.Y+k*[]int{0, 1, 1, 1, 0, -1, -1, -1}[d])
}

// bearing tells in which direction a place lies from another one, and how many steps away; -1, if in none.
func bearing(a, b api.Point) (d, n int) {
	dx, dy := b.X-a.X, b.Y-a.Y
	if dx != 0 && dy != 0 && dx != dy && dx != -dy {
		return -1, 0
	}
	return [3][3]int{{5, 6, 7}, {4, -1, 0}, {3, 2, 1}}[1+cmp.Compare(dy, 0)][1+cmp.Compare(dx, 0)], max(dx, -dx, dy, -dy)
}

func lengthOf(a, b api.Point) float32 {
	d, n := bearing(a, b)
	return times(float32(n), []float32{1, root2}[d%2])
}

func gradeOf(f api.Field, a, b api.Point) float32 {
	return over(size(minus(valueAt(f, b), valueAt(f, a))), lengthOf(a, b))
}

func costOf(f api.Field, s api.RoadRules, a, b api.Point) (float32, bool) {
	d, n := bearing(a, b)
	if d < 0 || n > 1 && n > s.Span {
		return 0, false
	}
	g := gradeOf(f, a, b)
	if g > s.Grade {
		return 0, false
	}
	if n > 1 {
		for k := 1; k < n; k++ {
			if v := valueAt(f, ahead(a, d, k)); v >= valueAt(f, a) || v >= valueAt(f, b) {
				return 0, false
			}
		}
		return plus(times(lengthOf(a, b), s.Bridge), s.Dear), true
	}
	cost := times(lengthOf(a, b), plus(1, times(times(s.Weight, g), g)))
	if len(s.Costly) > 0 {
		cost = times(cost, plus(1, valueAt(s.Costly[0], b)))
	}
	return cost, true
}

// link is a step between two cells that is possible.
type link struct {
	from, to int
	cost     float32
}

// linksOf has all steps that are possible, in the order of the cells from which they lead.
func linksOf(f api.Field, s api.RoadRules) []link {
	var l []link
	for i := range f.V {
		for k := range f.V {
			if cost, is := costOf(f, s, placeOf(f.Region, i), placeOf(f.Region, k)); is {
				l = append(l, link{i, k, cost})
			}
		}
	}
	return l
}

// leastPrices lowers the prices until none can be lowered.
func leastPrices(many int, links []link, from int) ([]float32, []bool) {
	prices, is := make([]float32, many), make([]bool, many)
	is[from] = true
	for changed := true; changed; {
		changed = false
		for _, v := range links {
			if price := plus(prices[v.from], v.cost); is[v.from] && (!is[v.to] || price < prices[v.to]) {
				prices[v.to], is[v.to] = price, true
				changed = true
			}
		}
	}
	return prices, is
}

// wayOf gives the cells of the way of tight steps with the fewest steps; nil, if there is none.
func wayOf(many int, links []link, from, to int) []int {
	prices, is := leastPrices(many, links, from)
	if !is[to] {
		return nil
	}
	tight := slices.DeleteFunc(slices.Clone(links), func(v link) bool {
		return !is[v.from] || plus(prices[v.from], v.cost) != prices[v.to]
	})
	steps := slices.Repeat([]int{1 << 30}, many)
	steps[from] = 0
	for changed := true; changed; {
		changed = false
		for _, v := range tight {
			if steps[v.from]+1 < steps[v.to] {
				steps[v.to] = steps[v.from] + 1
				changed = true
			}
		}
	}
	way := []int{to}
	for way[0] != from {
		k := slices.IndexFunc(tight, func(v link) bool { return v.to == way[0] && steps[v.from]+1 == steps[v.to] })
		way = slices.Insert(way, 0, tight[k].from)
	}
	return way
}

func placesOf(r api.Region, cells []int) []api.Point {
	var l []api.Point
	for _, i := range cells {
		l = append(l, placeOf(r, i))
	}
	return l
}

func heightsOn(f api.Field, way []api.Point) []float32 {
	var l []float32
	for _, p := range way {
		l = append(l, valueAt(f, p))
	}
	return l
}

func bedOf(f api.Field, way []api.Point, how int, grade float32) []float32 {
	if how == api.BedMean {
		fill, cut := bedOf(f, way, api.BedFill, grade), bedOf(f, way, api.BedCut, grade)
		for i := range cut {
			cut[i] = times(plus(cut[i], fill[i]), 0.5)
		}
		return cut
	}
	bed := heightsOn(f, way)
	fit := func(i, beside int) {
		d := times(grade, lengthOf(way[i], way[beside]))
		if how == api.BedFill {
			bed[i] = greater(bed[i], minus(bed[beside], d))
		} else {
			bed[i] = lesser(bed[i], plus(bed[beside], d))
		}
	}
	for i := 1; i < len(bed); i++ {
		fit(i, i-1)
	}
	for i := len(bed) - 2; i >= 0; i-- {
		fit(i, i+1)
	}
	return bed
}

func builtOn(f api.Field, way []api.Point, bed []float32, wide, soft int) api.Field {
	g := api.Field{Region: f.Region}
	for i, v := range f.V {
		least, b := 1<<40, float32(0)
		for k, p := range way {
			q := placeOf(f.Region, i)
			if square := (p.X-q.X)*(p.X-q.X) + (p.Y-q.Y)*(p.Y-q.Y); square < least {
				least, b = square, bed[k]
			}
		}
		s := over(minus(root(float32(least)), float32(wide)), float32(soft))
		switch {
		case least <= wide*wide:
			v = b
		case s < 1:
			v = plus(b, times(minus(v, b), times(times(s, s), minus(3, times(2, s)))))
		}
		g.V = append(g.V, v)
	}
	return g
}

func cornersOf(way []api.Point) []api.Point {
	var l []api.Point
	for i, p := range way {
		if i > 0 && i < len(way)-1 {
			d, n := bearing(way[i-1], p)
			if c, m := bearing(p, way[i+1]); c == d && n == 1 && m == 1 {
				continue
			}
		}
		l = append(l, p)
	}
	return l
}

func roundedOf(l []api.Point, many int) []api.Spot {
	var spots []api.Spot
	for _, p := range l {
		spots = append(spots, api.Spot{X: float32(p.X), Y: float32(p.Y)})
	}
	for k := 0; k < many && len(l) > 1; k++ {
		next := spots[:1:1]
		for i := 1; i < len(spots); i++ {
			a, b := spots[i-1], spots[i]
			for _, share := range []float32{0.25, 0.75} {
				next = append(next, api.Spot{X: plus(a.X, times(minus(b.X, a.X), share)), Y: plus(a.Y, times(minus(b.Y, a.Y), share))})
			}
		}
		spots = append(next, spots[len(spots)-1])
	}
	return spots
}

// pairsOf has all roads that Connect and Shortcuts may choose, in order.
func pairsOf(f api.Field, s api.RoadRules, sites []api.Point) []api.Road {
	links := linksOf(f, s)
	cell := func(p api.Point) int { return (p.Y-f.Y)*f.W + p.X - f.X }
	var l []api.Road
	for i, p := range sites {
		prices, is := leastPrices(len(f.V), links, cell(p))
		for k := i + 1; k < len(sites); k++ {
			if to := cell(sites[k]); is[to] {
				l = append(l, api.Road{From: i, To: k, Way: placesOf(f.Region, wayOf(len(f.V), links, cell(p), to)), Price: prices[to]})
			}
		}
	}
	slices.SortFunc(l, func(a, b api.Road) int {
		return cmp.Or(cmp.Compare(a.Price, b.Price), cmp.Compare(a.From, b.From), cmp.Compare(a.To, b.To))
	})
	return l
}

func linksOfRoads(l []api.Road) []link {
	var links []link
	for _, r := range l {
		links = append(links, link{r.From, r.To, r.Price}, link{r.To, r.From, r.Price})
	}
	return links
}

// connected takes a road where none of those before leads between its sites, by any others.
func connected(many int, pairs []api.Road) []api.Road {
	var l []api.Road
	for _, r := range pairs {
		if _, is := leastPrices(many, linksOfRoads(l), r.From); !is[r.To] {
			l = append(l, r)
		}
	}
	return l
}

func shortened(many int, pairs, l []api.Road, factor float32) []api.Road {
	var added []api.Road
	for _, r := range pairs {
		trips, is := leastPrices(many, linksOfRoads(slices.Concat(l, added)), r.From)
		if !is[r.To] || trips[r.To] > times(factor, r.Price) {
			added = append(added, r)
		}
	}
	return added
}

func printed(way []api.Point) string {
	text := strconv.Itoa(way[0].X) + " " + strconv.Itoa(way[0].Y)
	for i, p := range way[1:] {
		d, n := bearing(way[i], p)
		text += " " + strconv.Itoa(d)
		if n > 1 {
			text += "x" + strconv.Itoa(n)
		}
	}
	return text
}
