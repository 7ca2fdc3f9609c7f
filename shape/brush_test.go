package shape_test

import (
	"testing"

	"tarnfell/api"
	"tarnfell/shape"
)

var brushKinds = []int{api.BrushFlat, api.BrushCone, api.BrushBell}

// badBrush is a brush with what CheckBrush says of it.
type badBrush struct {
	b    api.Brush
	want api.Errno
}

func badBrushes() []badBrush {
	const far = api.MaxPlace + 1
	var l []badBrush
	for _, kind := range append(outside(api.BrushFlat, api.BrushBell), 0, 4, -1) {
		l = append(l,
			badBrush{api.Brush{Kind: kind, Radius: 5, Height: 1}, api.ErrKind},
			badBrush{api.Brush{Kind: kind, X: far, Radius: 0, Height: nan}, api.ErrKind},
			badBrush{api.Brush{Kind: kind, Height: beyond}, api.ErrKind},
		)
	}
	for _, p := range badPlaces() {
		l = append(l,
			badBrush{api.Brush{Kind: api.BrushBell, X: p.X, Y: p.Y, Radius: 5, Height: 1}, api.ErrPlace},
			badBrush{api.Brush{Kind: api.BrushBell, X: p.X, Y: p.Y, Radius: 0, Height: nan}, api.ErrPlace},
		)
	}
	for _, radius := range outside(1, api.MaxBrush) {
		for _, height := range []float32{1, nan, inf, beyond} {
			l = append(l, badBrush{api.Brush{Kind: api.BrushCone, Radius: radius, Height: height}, api.ErrRange})
		}
	}
	for _, s := range badSingles(-top, top) {
		l = append(l, badBrush{api.Brush{Kind: api.BrushFlat, X: -api.MaxPlace, Y: api.MaxPlace, Radius: api.MaxBrush, Height: s.v}, s.want})
	}
	return l
}

// P48: what a brush may be, and the errors, in their order.
func TestCheckBrush(t *testing.T) {
	for _, kind := range brushKinds {
		for _, radius := range []int{1, 2, 100, api.MaxBrush} {
			for _, height := range []float32{0, minusZero, tiny, -1, top, -top} {
				for _, at := range []int{-api.MaxPlace, -1, 0, api.MaxPlace} {
					b := api.Brush{Kind: kind, X: at, Y: -at, Radius: radius, Height: height}
					if e := shape.CheckBrush(b); e != api.OK {
						t.Error("CheckBrush", b, e)
					}
				}
			}
		}
	}
	for _, s := range badBrushes() {
		if e := shape.CheckBrush(s.b); e != s.want {
			t.Errorf("CheckBrush(%v) is %d, want %d", s.b, e, s.want)
		}
	}
}

// P48, G6: Weight of all places in and around a brush; Box has those with weight, and no row or column without.
func TestWeightAndBox(t *testing.T) {
	for _, kind := range brushKinds {
		for _, radius := range []int{1, 2, 3, 5, 13, 40} {
			b := api.Brush{Kind: kind, X: 7, Y: -1000, Radius: radius, Height: -3}
			box := region(b.X, b.Y, 1, 1)
			for y := b.Y - radius - 3; y <= b.Y+radius+3; y++ {
				for x := b.X - radius - 3; x <= b.X+radius+3; x++ {
					v, e := shape.Weight(b, x, y)
					wantSingle(t, "Weight", v, e, weightAt(b, x, y))
					if v > 0 {
						box = united(box, region(x, y, 1, 1))
					}
				}
			}
			if r, e := shape.Box(b); r != box || e != api.OK {
				t.Errorf("Box(%v) is %v, error %d; want %v", b, r, e, box)
			}
		}
	}
}

func united(a, b api.Region) api.Region {
	x, y := min(a.X, b.X), min(a.Y, b.Y)
	return region(x, y, max(a.X+a.W, b.X+b.W)-x, max(a.Y+a.H, b.Y+b.H)-y)
}

// P48: known weights; at the distance of the radius there is none.
func TestKnownWeights(t *testing.T) {
	for _, s := range []struct {
		kind, radius, x, y int
		want               float32
	}{
		{api.BrushFlat, 1, 0, 0, 1}, {api.BrushFlat, 1, 1, 0, 0}, {api.BrushFlat, 5, 3, 4, 0}, {api.BrushFlat, 5, 4, -2, 1}, {api.BrushFlat, 256, 0, -255, 1}, {api.BrushFlat, 256, -256, 0, 0},
		{api.BrushCone, 1, 0, 0, 1}, {api.BrushCone, 1, 0, -1, 0}, {api.BrushCone, 10, 3, -4, 0.5}, {api.BrushCone, 10, -6, 8, 0}, {api.BrushCone, 10, 0, 9, minus(1, over(9, 10))}, {api.BrushCone, 3, 1, 1, minus(1, over(root(2), 3))},
		{api.BrushBell, 1, 0, 0, 1}, {api.BrushBell, 1, 1, 1, 0}, {api.BrushBell, 10, 5, 5, 0.25}, {api.BrushBell, 10, -6, -8, 0}, {api.BrushBell, 2, 1, -1, 0.25}, {api.BrushBell, 256, 255, 0, times(minus(1, over(65025, 65536)), minus(1, over(65025, 65536)))},
	} {
		for _, at := range []int{0, -77, api.MaxPlace - 500, 500 - api.MaxPlace} {
			b := api.Brush{Kind: s.kind, X: at, Y: -at, Radius: s.radius}
			v, e := shape.Weight(b, at+s.x, s.y-at)
			wantSingle(t, "Weight", v, e, s.want)
		}
	}
	far := api.Brush{Kind: api.BrushFlat, X: -api.MaxPlace, Y: -api.MaxPlace, Radius: api.MaxBrush}
	v, e := shape.Weight(far, api.MaxPlace, api.MaxPlace)
	wantSingle(t, "Weight over the plane", v, e, 0)
	v, e = shape.Weight(far, -api.MaxPlace, -api.MaxPlace)
	wantSingle(t, "Weight at the end of the plane", v, e, 1)
}

// P48: a box can lie beyond the plane.
func TestBox(t *testing.T) {
	for _, kind := range brushKinds {
		for _, s := range []struct {
			x, y, radius int
			want         api.Region
		}{
			{0, 0, 1, region(0, 0, 1, 1)}, {10, -1, 3, region(8, -3, 5, 5)}, {5, 6, 256, region(-250, -249, 511, 511)},
			{api.MaxPlace, -api.MaxPlace, 256, region(api.MaxPlace-255, -api.MaxPlace-255, 511, 511)},
		} {
			r, e := shape.Box(api.Brush{Kind: kind, X: s.x, Y: s.y, Radius: s.radius, Height: -top})
			if r != s.want || e != api.OK {
				t.Error("Box", s, r, e)
			}
		}
	}
}

// P48: the errors of Weight, Box and Stamp, and their order.
func TestBrushErrors(t *testing.T) {
	f := row(1, 2)
	for _, s := range badBrushes() {
		v, e := shape.Weight(s.b, 0, 0)
		wantNoSingle(t, "Weight", v, e, s.want)
		v, e = shape.Weight(s.b, api.MaxPlace+1, 0)
		wantNoSingle(t, "Weight", v, e, s.want)
		if r, e := shape.Box(s.b); e != s.want || r != (api.Region{}) {
			t.Error("Box", s, r, e)
		}
		g, e := shape.Stamp(f, s.b)
		wantNoField(t, "Stamp", g, e, s.want)
	}
	good := api.Brush{Kind: api.BrushFlat, Radius: api.MaxBrush, Height: 1}
	for _, p := range badPlaces() {
		v, e := shape.Weight(good, p.X, p.Y)
		wantNoSingle(t, "Weight", v, e, api.ErrPlace)
	}
	for _, s := range badFields() {
		g, e := shape.Stamp(s.f, good)
		wantNoField(t, "Stamp", g, e, s.want)
		g, e = shape.Stamp(s.f, api.Brush{Height: nan})
		wantNoField(t, "Stamp", g, e, s.want)
	}
}

// P48, G6: Stamp adds the rounded products, also zeros.
func TestStamp(t *testing.T) {
	n := &numbers{state: 8}
	for _, f := range n.fields(1 << 19) {
		for _, kind := range brushKinds {
			for _, radius := range []int{1, 4, 9, api.MaxBrush} {
				for _, height := range []float32{n.single(), n.single() * (1 << 19), n.height(1 << 19), 0, minusZero, tiny} {
					b := api.Brush{Kind: kind, X: f.X + n.between(-3, 25), Y: min(f.Y+n.between(-3, 20), api.MaxPlace), Radius: radius, Height: height}
					b.X = max(b.X, -api.MaxPlace)
					g, e := shape.Stamp(f, b)
					want := eachCell(f.Region, func(x, y int) float32 { return plus(valueAt(f, x, y), times(height, weightAt(b, x, y))) })
					wantField(t, "Stamp", g, e, want)
				}
			}
		}
	}
	g, e := shape.Stamp(row(minusZero, 0, minusZero), api.Brush{Kind: api.BrushFlat, Radius: 1, Height: minusZero})
	wantField(t, "Stamp of -0", g, e, row(minusZero, 0, minusZero))
	g, e = shape.Stamp(row(minusZero, 0, minusZero), api.Brush{Kind: api.BrushFlat, Radius: 1, Height: 3})
	wantField(t, "Stamp", g, e, row(3, 0, 0))
	g, e = shape.Stamp(row(minusZero, 0, minusZero), api.Brush{Kind: api.BrushFlat, Radius: 1, Height: -3})
	wantField(t, "Stamp", g, e, row(-3, 0, minusZero))
	g, e = shape.Stamp(row(1, 1), api.Brush{Kind: api.BrushCone, X: api.MaxPlace, Radius: 9, Height: top})
	wantField(t, "Stamp from afar", g, e, row(1, 1))
}

// P48, G7: what is raised beyond heights.
func TestStampBeyondHeights(t *testing.T) {
	b := api.Brush{Kind: api.BrushFlat, X: 1, Radius: 1, Height: top}
	g, e := shape.Stamp(row(top, 0, -top), b)
	wantField(t, "Stamp", g, e, row(top, top, -top))
	g, e = shape.Stamp(row(1, 0.0625, 1), b)
	wantField(t, "Stamp", g, e, row(1, top, 1))
	g, e = shape.Stamp(row(1, 0.125, 1), b)
	wantNoField(t, "Stamp", g, e, api.ErrRange)
	b.Height = -top
	g, e = shape.Stamp(row(1, -1, 1), b)
	wantNoField(t, "Stamp", g, e, api.ErrRange)
}
