package recipe

import (
	"math"

	"tarnfell/api"
	"tarnfell/field"
)

// span is two singles between which values lie.
type span struct{ low, high float32 }

// Bounds is described in doc/07-recipe.md, P147.
func Bounds(g api.Graph) (low, high []float32, e api.Errno) {
	p, e := planOfGraph(g)
	if e != api.OK {
		return nil, nil, e
	}
	spans := make([]span, len(p.parts))
	for i, n := range p.hung() {
		spans[i] = n.bounds(pick(spans, n.In)).heights()
	}
	for _, s := range spans {
		low = append(low, s.low)
		high = append(high, s.high)
	}
	return low, high, api.OK
}

// heights widens a bound that is no height to the limit on its side, also one that leaves the heights on the other side.
func (s span) heights() span {
	if field.CheckHeights(s.low) != api.OK {
		s.low = -api.MaxHeight
	}
	if field.CheckHeights(s.high) != api.OK {
		s.high = api.MaxHeight
	}
	return s
}

// between gives the span of values: of equal ones the first.
func between(v float32, more ...float32) span {
	s := span{v, v}
	for _, v := range more {
		s = span{field.Lesser(s.low, v), field.Greater(s.high, v)}
	}
	return s
}

func (s span) wider(by float32) span { return span{s.low - by, s.high + by} }

// fraction gives a share of the greater magnitude of both ends.
func (s span) fraction(share float32) float32 {
	return float32(max(s.low, -s.low, s.high, -s.high) * share)
}

func sums(in []span) span { return span{in[0].low + in[1].low, in[0].high + in[1].high} }

func differences(in []span) span { return span{in[0].low - in[1].high, in[0].high - in[1].low} }

func products(in []span) span {
	return corners(in, func(a, b float32) float32 { return a * b })
}

func quotients(in []span) span {
	if in[1].low <= 0 && in[1].high >= 0 {
		return span{-api.MaxHeight, api.MaxHeight}
	}
	return corners(in, func(a, b float32) float32 { return a / b })
}

func corners(in []span, of func(a, b float32) float32) span {
	a, b := in[0], in[1]
	return between(of(a.low, b.low), of(a.low, b.high), of(a.high, b.low), of(a.high, b.high))
}

func lesser(in []span) span {
	return span{field.Lesser(in[0].low, in[1].low), field.Lesser(in[0].high, in[1].high)}
}

func greater(in []span) span {
	return span{field.Greater(in[0].low, in[1].low), field.Greater(in[0].high, in[1].high)}
}

func shares([]span) span { return span{0, 1} }

func mixed(in []span) span {
	s := span{field.Lesser(in[0].low, in[1].low), field.Greater(in[0].high, in[1].high)}
	return s.wider(float32((s.high-s.low)*0x1p-20) + s.fraction(0x1p-20))
}

// ends gives the bounds of what never falls where its input rises.
func ends(values func(f api.Field) (api.Field, api.Errno)) func(s span) span {
	return func(s span) span { return span{valueOf(s.low, values), valueOf(s.high, values)} }
}

// valueOf gives what is made of a value. If that is no height it is not told; then an infinity stands for it.
func valueOf(v float32, values func(f api.Field) (api.Field, api.Errno)) float32 {
	f, _ := field.Fill(oneCell(), v)
	f, e := values(f)
	if e != api.OK {
		return float32(math.Inf(1))
	}
	return f.V[0]
}

func raised(height float32) func(s span) span {
	most := float32(height * 1.0001)
	return func(s span) span {
		if most < 0 {
			return span{s.low + most, s.high}
		}
		return span{s.low, s.high + most}
	}
}

// mean adds, although products would be nearer, because the values are added, too, and the bounds must hold for their sums.
func (s span) mean(many int) span {
	sum := s
	for range many - 1 {
		sum = sums([]span{sum, s})
	}
	return span{sum.low / float32(many), sum.high / float32(many)}
}

func (s span) sum(weights []float32) span {
	var sum span
	for i, k := range weights {
		next := between(float32(k*s.low), float32(k*s.high))
		if i > 0 {
			next = sums([]span{sum, next})
		}
		sum = next
	}
	return sum
}

func (s span) slope() span {
	d := (s.high - s.low) * 0.5
	return span{0, field.Root(float32(d*d) + float32(d*d))}
}

func (s span) curve() span {
	return span{float32((s.low+s.low+s.low+s.low)*0.25) - s.high, float32((s.high+s.high+s.high+s.high)*0.25) - s.low}
}

func worn(steps int) func(s span) span {
	return func(s span) span {
		for range steps {
			s = s.wider(s.fraction(0x1p-18))
		}
		return s
	}
}
