package plant_test

import (
	"cmp"
	"math"
	"slices"
	"strconv"

	"tarnfell/api"
	"tarnfell/noise"
)

// This file has the document's formulas, written down another time: slow, and with each operation rounded by way of a double, which never rounds twice.

func times(a, b float32) float32 { return float32(float64(a) * float64(b)) }
func plus(a, b float32) float32  { return float32(float64(a) + float64(b)) }
func minus(a, b float32) float32 { return float32(float64(a) - float64(b)) }
func over(a, b float32) float32  { return float32(float64(a) / float64(b)) }
func root(a float32) float32     { return float32(math.Sqrt(float64(a))) }
func size(a float32) float32     { return float32(math.Abs(float64(a))) }

// sumOf begins with the first value.
func sumOf(l []float32) float32 {
	if len(l) == 0 {
		return 0
	}
	sum := l[0]
	for _, v := range l[1:] {
		sum = plus(sum, v)
	}
	return sum
}

// mostOf takes the first one of equal values.
func mostOf(l []float32) float32 {
	if len(l) == 0 {
		return 0
	}
	most := l[0]
	for _, v := range l {
		if v > most {
			most = v
		}
	}
	return most
}

func slackOf(v, low, high, soft float32) float32 {
	var d float32
	switch {
	case v < low:
		d = minus(low, v)
	case v > high:
		d = minus(v, high)
	default:
		return 1
	}
	if d < soft {
		return minus(1, over(d, soft))
	}
	return 0
}

func suitOf(k api.Kind, g api.Ground) float32 {
	a := slackOf(g.Height, k.Low, k.High, k.Soft)
	b := float32(1)
	if g.Slope > k.Steep {
		b = 0
	} else if k.Steep > 0 {
		b = minus(1, times(0.5, over(g.Slope, k.Steep)))
	}
	c := slackOf(g.Wet, k.Dry, k.Damp, plus(k.Dry, 1))
	return times(times(a, b), c)
}

// find gives the value of a field at a place, and whether this is in it.
func find(f api.Field, x, y int) (float32, bool) {
	if x < f.X || y < f.Y || x >= f.X+f.W || y >= f.Y+f.H {
		return 0, false
	}
	return f.V[(y-f.Y)*f.W+x-f.X], true
}

// groundOf is that of a cell; its slope may be no height.
func groundOf(f, wet api.Field, x, y int) api.Ground {
	var g api.Ground
	g.Height, _ = find(f, x, y)
	for _, d := range [][2]int{{1, 0}, {0, 1}, {-1, 0}, {0, -1}} {
		if v, is := find(f, x+d[0], y+d[1]); is && size(minus(v, g.Height)) > g.Slope {
			g.Slope = size(minus(v, g.Height))
		}
	}
	g.Wet, _ = find(wet, x, y)
	if g.Wet < 0 {
		g.Wet = 0
	}
	return g
}

// eachCell makes a field of a value for each place.
func eachCell(r api.Region, value func(x, y int) float32) api.Field {
	f := api.Field{Region: r}
	for y := r.Y; y < r.Y+r.H; y++ {
		for x := r.X; x < r.X+r.W; x++ {
			f.V = append(f.V, value(x, y))
		}
	}
	return f
}

// sproutsOf are not thinned.
func sproutsOf(f, wet api.Field, l []api.Kind, seed uint32) []api.Plant {
	var p []api.Plant
	eachCell(f.Region, func(x, y int) float32 {
		var chances []float32
		for _, k := range l {
			chances = append(chances, times(suitOf(k, groundOf(f, wet, x, y)), k.Share))
		}
		best := mostOf(chances)
		if noise.Unit(noise.Hash(seed, x, y, 3)) < best {
			p = append(p, api.Plant{Kind: slices.Index(chances, best), X: x, Y: y})
		}
		return 0
	})
	return p
}

func inRows(a, b api.Plant) int {
	return cmp.Or(cmp.Compare(a.Y, b.Y), cmp.Compare(a.X, b.X))
}

func standBefore(a, b api.Plant) bool {
	if a.Size != b.Size {
		return a.Size > b.Size
	}
	if a.Age != b.Age {
		return a.Age > b.Age
	}
	if h, k := noise.Hash(0, a.X, a.Y, 4), noise.Hash(0, b.X, b.Y, 4); h != k {
		return h < k
	}
	return inRows(a, b) < 0
}

func squareOf(ax, ay, bx, by int) int { return (ax-bx)*(ax-bx) + (ay-by)*(ay-by) }

func tooClose(l []api.Kind, a, b api.Plant) bool {
	space := max(l[a.Kind].Space, l[b.Kind].Space)
	return squareOf(a.X, a.Y, b.X, b.Y) < space*space
}

func apartOf(l []api.Kind, p []api.Plant) []api.Plant {
	left := slices.Clone(p)
	var stay []api.Plant
	for len(left) > 0 {
		first := 0
		for i := range left {
			if standBefore(left[i], left[first]) {
				first = i
			}
		}
		v := left[first]
		left = slices.Delete(left, first, first+1)
		if !slices.ContainsFunc(stay, func(s api.Plant) bool { return tooClose(l, v, s) }) {
			stay = append(stay, v)
		}
	}
	slices.SortFunc(stay, inRows)
	return stay
}

// leftOf is what is left of a strength at a distance below r.
func leftOf(strength float32, square, r int) (float32, bool) {
	d := root(float32(square))
	if d < float32(r) {
		return times(strength, minus(1, over(d, float32(r)))), true
	}
	return 0, false
}

func crowdOf(l []api.Kind, p []api.Plant, i int) float32 {
	var shares []float32
	for n, v := range p {
		share, is := leftOf(v.Size, squareOf(v.X, v.Y, p[i].X, p[i].Y), l[v.Kind].Space+l[p[i].Kind].Space)
		if is && n != i {
			shares = append(shares, share)
		}
	}
	return sumOf(shares)
}

func growOf(w wood) []api.Plant {
	var alive []api.Plant
	for i, v := range w.p {
		k := w.l[v.Kind]
		s := suitOf(k, groundOf(w.f, w.wet, v.X, v.Y))
		g := over(times(k.Pace, s), plus(1, crowdOf(w.l, w.p, i)))
		if s == 0 || g < over(v.Size, 64) {
			continue
		}
		v.Size = plus(v.Size, g)
		if v.Size > k.Top {
			v.Size = k.Top
		}
		v.Age++
		alive = append(alive, v)
	}
	return alive
}

func seedsOf(w wood, seed uint32, year int) []api.Plant {
	all := slices.Clone(w.p)
	for _, v := range w.p {
		k := w.l[v.Kind]
		if v.Size < times(k.Top, 0.5) || v.Size == 0 {
			continue
		}
		s := noise.NewStream(seed^uint32(year), v.X, v.Y)
		dx, _ := s.Below(2*k.Throw + 1)
		dy, _ := s.Below(2*k.Throw + 1)
		young := api.Plant{Kind: v.Kind, X: v.X + dx - k.Throw, Y: v.Y + dy - k.Throw}
		_, inside := find(w.f, young.X, young.Y)
		taken := slices.ContainsFunc(all, func(o api.Plant) bool { return o.X == young.X && o.Y == young.Y })
		if inside && !taken && suitOf(k, groundOf(w.f, w.wet, young.X, young.Y)) > 0 {
			all = append(all, young)
		}
	}
	slices.SortFunc(all, inRows)
	return all
}

func yearsOf(w wood, seed uint32, many int) []api.Plant {
	for year := range many {
		w.p = growOf(w)
		w.p = seedsOf(w, seed, year)
		w.p = apartOf(w.l, w.p)
	}
	return w.p
}

func coverOf(r api.Region, l []api.Kind, p []api.Plant) api.Field {
	return eachCell(r, func(x, y int) float32 {
		var shares []float32
		for _, v := range p {
			k := l[v.Kind]
			var q float32
			if k.Top != 0 {
				q = over(v.Size, k.Top)
			}
			if share, is := leftOf(q, squareOf(v.X, v.Y, x, y), k.Space+1); is {
				shares = append(shares, share)
			}
		}
		return mostOf(shares)
	})
}

func shadeOf(r api.Region, l []api.Kind, p []api.Plant) api.Field {
	return eachCell(r, func(x, y int) float32 {
		var shares []float32
		for _, v := range p {
			if share, is := leftOf(v.Size, squareOf(v.X, v.Y, x, y), l[v.Kind].Space+1); is {
				shares = append(shares, share)
			}
		}
		return sumOf(shares)
	})
}

// burnOf lights plants until no more are lit.
func burnOf(l []api.Kind, p []api.Plant, from api.Point, wind int) []int {
	w := [][2]int{{0, 0}, {1, 0}, {1, 1}, {0, 1}, {-1, 1}, {-1, 0}, {-1, -1}, {0, -1}, {1, -1}}[wind+1]
	burns := make([]bool, len(p))
	canBurn := func(v api.Plant) bool { return l[v.Kind].Bark < noise.Unit(noise.Hash(1, v.X, v.Y, 5)) }
	for i, v := range p {
		burns[i] = canBurn(v) && squareOf(v.X, v.Y, from.X, from.Y) <= 9
	}
	for more := true; more; {
		more = false
		for i, a := range p {
			for k, b := range p {
				if !burns[i] || burns[k] || !canBurn(b) {
					continue
				}
				r := l[a.Kind].Space + l[b.Kind].Space + 1
				if (b.X-a.X)*w[0]+(b.Y-a.Y)*w[1] > 0 {
					r += 2
				}
				if squareOf(a.X, a.Y, b.X, b.Y) <= r*r {
					burns[k], more = true, true
				}
			}
		}
	}
	var l2 []int
	for i, b := range burns {
		if b {
			l2 = append(l2, i)
		}
	}
	return l2
}

func countOf(l []api.Kind, p []api.Plant) []api.Census {
	var all []api.Census
	for i, k := range l {
		var c api.Census
		var sizes []float32
		for _, v := range p {
			if v.Kind != i {
				continue
			}
			c.Many++
			if v.Size < times(k.Top, 0.5) {
				c.Young++
			}
			c.Oldest = max(c.Oldest, v.Age)
			sizes = append(sizes, v.Size)
		}
		c.Sum = sumOf(sizes)
		if c.Many > 0 {
			c.Mean = over(c.Sum, float32(c.Many))
		}
		all = append(all, c)
	}
	return all
}

func nearestOf(p []api.Plant, to api.Point) int {
	best := 0
	for i, v := range p {
		if squareOf(v.X, v.Y, to.X, to.Y) < squareOf(p[best].X, p[best].Y, to.X, to.Y) {
			best = i
		}
	}
	return best
}

func printed(l []api.Kind, p []api.Plant) string {
	text := ""
	for _, v := range p {
		text += l[v.Kind].Name + " " + strconv.Itoa(v.X) + " " + strconv.Itoa(v.Y) + " " + strconv.FormatFloat(float64(v.Size), 'g', -1, 32) + " " + strconv.Itoa(v.Age) + "\n"
	}
	return text
}
