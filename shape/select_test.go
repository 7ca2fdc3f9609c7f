package shape_test

import (
	"testing"

	"tarnfell/api"
	"tarnfell/shape"
)

// P47, G6: Select, with each operation rounded.
func TestSelect(t *testing.T) {
	n := &numbers{state: 6}
	for _, f := range n.fields(top) {
		for _, size := range []float32{tiny * 9, 1, 5, 1 << 18} {
			for range 6 {
				a, b := n.single()*size, n.single()*size
				low, high, soft := min(a, b), max(a, b), n.share()*size
				g, e := shape.Select(f, low, high, soft)
				want := eachCell(f.Region, func(x, y int) float32 { return selected(valueAt(f, x, y), low, high, soft) })
				wantField(t, "Select", g, e, want)
			}
		}
	}
}

// P47: both ends are included; what is soft or more away has 0.
func TestSelectEnds(t *testing.T) {
	g, e := shape.Select(row(2, 4, 3, before(2), after(4), 0, 6, 1, 5, 1.5, 4.5, top, -top), 2, 4, 2)
	edge := minus(1, eased(over(minus(2, before(2)), 2)))
	other := minus(1, eased(over(minus(after(4), 4), 2)))
	wantField(t, "Select", g, e, row(1, 1, 1, edge, other, 0, 0, 0.5, 0.5, 0.84375, 0.84375, 0, 0))
	g, e = shape.Select(row(0, 0.25, 0.25, 0), 1, 1, 1)
	wantField(t, "Select of one height", g, e, row(0, 0.15625, 0.15625, 0))
	for _, soft := range []float32{0, minusZero} {
		g, e = shape.Select(row(1, 2, 3, before(1), after(3), minusZero, 0), 1, 3, soft)
		wantField(t, "Select without a soft edge", g, e, row(1, 1, 1, 0, 0, 0, 0))
	}
	g, e = shape.Select(row(minusZero, 0, tiny, -tiny), minusZero, 0, tiny)
	wantField(t, "Select of zeros", g, e, row(1, 1, 0, 0))
	g, e = shape.Select(row(-top, 0, top), -top, top, 0)
	wantField(t, "Select of all heights", g, e, row(1, 1, 1))
	g, e = shape.Select(row(-top, 0, before(top)), top, top, top)
	wantField(t, "Select of the top", g, e, row(0, 0, minus(1, eased(0x1p-24))))
	// The difference is rounded up to what is soft.
	g, e = shape.Select(row(-tiny), 1, 1, 1)
	wantField(t, "Select", g, e, row(0))
}

// P47, G7: the errors of Select, and their order.
func TestSelectErrors(t *testing.T) {
	f := row(1, 2)
	for _, s := range []struct {
		low, high, soft float32
		want            api.Errno
	}{
		{nan, 1, 1, api.ErrForm}, {0, nan, 1, api.ErrForm}, {0, 1, nan, api.ErrForm}, {inf, 0, 1, api.ErrForm}, {0, -inf, 1, api.ErrForm}, {0, 1, inf, api.ErrForm},
		{beyond, nan, 1, api.ErrForm}, {beyond, 0, nan, api.ErrForm}, {3, 2, nan, api.ErrForm}, {0, beyond, -inf, api.ErrForm},
		{beyond, 1, 1, api.ErrRange}, {-beyond, 1, 1, api.ErrRange}, {0, beyond, 1, api.ErrRange}, {0, 1, beyond, api.ErrRange}, {0, 1, -beyond, api.ErrRange},
		{beyond, 0, -1, api.ErrRange}, {1, -beyond, 0, api.ErrRange}, {3, 2, beyond, api.ErrRange},
		{3, 2, 1, api.ErrOrder}, {after(1), 1, 0, api.ErrOrder}, {tiny, minusZero, 0, api.ErrOrder}, {3, 2, -1, api.ErrOrder},
		{2, 3, -1, api.ErrRange}, {2, 2, -tiny, api.ErrRange}, {2, 3, -top, api.ErrRange},
	} {
		g, e := shape.Select(f, s.low, s.high, s.soft)
		wantNoField(t, "Select", g, e, s.want)
	}
	for _, s := range badFields() {
		g, e := shape.Select(s.f, nan, beyond, -1)
		wantNoField(t, "Select", g, e, s.want)
		g, e = shape.Select(s.f, 1, 0, -1)
		wantNoField(t, "Select", g, e, s.want)
	}
}

// P47, G6: Terrace, with each operation rounded.
func TestTerrace(t *testing.T) {
	n := &numbers{state: 7}
	for _, f := range n.fields(1 << 19) {
		for _, step := range []float32{0x1p-10, 0x1p10, 1, 0.3, 2.7, 1000.1} {
			for _, sharp := range []float32{0, minusZero, tiny, 0.5, before(1), n.share() * 0.99} {
				g, e := shape.Terrace(f, step, sharp)
				want := eachCell(f.Region, func(x, y int) float32 { return terraced(valueAt(f, x, y), step, sharp) })
				wantField(t, "Terrace", g, e, want)
			}
		}
	}
}

// P47: where a terrace is flat, and where it rises.
func TestTerraceEdges(t *testing.T) {
	g, e := shape.Terrace(row(0, 1, 2, 3, 4, -1, -2, -3, minusZero, 2.5, 3.5, before(2)), 4, 0.5)
	wantField(t, "Terrace", g, e, row(0, 0, 0, 2, 4, -2, -4, -4, minusZero, 1, 3, 0))
	g, e = shape.Terrace(row(0, 1, 2.5, -1, -2.5, minusZero), 2, 0)
	wantField(t, "Terrace without flats", g, e, row(0, 1, 2.5, -1, -2.5, 0))
	// A share that is rounded up to 1 leads up to the next step.
	g, e = shape.Terrace(row(-tiny, -tiny), 1, 0.75)
	wantField(t, "Terrace", g, e, row(0, 0))
	g, e = shape.Terrace(row(0.99999, 1.99999), 1, before(1))
	wantField(t, "Terrace", g, e, row(0, 1))
}

// P47, G7: a step below the least height is no height.
func TestTerraceBeyondHeights(t *testing.T) {
	g, e := shape.Terrace(row(-top, top), 1024, 0.5)
	wantField(t, "Terrace", g, e, row(-top, top))
	g, e = shape.Terrace(row(-top), 3, 0.9)
	wantNoField(t, "Terrace", g, e, api.ErrRange)
	g, e = shape.Terrace(row(0, -top), 1000, 0.9)
	wantNoField(t, "Terrace", g, e, api.ErrRange)
	g, e = shape.Terrace(row(0, top), 1000, 0.9)
	wantField(t, "Terrace", g, e, row(0, 1048000))
}

// P47, G7: the errors of Terrace, and their order.
func TestTerraceErrors(t *testing.T) {
	f := row(1, 2)
	for _, s := range badSingles(0x1p-10, 0x1p10) {
		g, e := shape.Terrace(f, s.v, 0.5)
		wantNoField(t, "Terrace", g, e, s.want)
		g, e = shape.Terrace(f, s.v, 1)
		wantNoField(t, "Terrace", g, e, s.want)
		g, e = shape.Terrace(f, s.v, nan)
		wantNoField(t, "Terrace", g, e, api.ErrForm)
	}
	for _, s := range badSingles(0, before(1)) {
		g, e := shape.Terrace(f, 1, s.v)
		wantNoField(t, "Terrace", g, e, s.want)
		g, e = shape.Terrace(f, 0, s.v)
		wantNoField(t, "Terrace", g, e, s.want)
		g, e = shape.Terrace(f, -inf, s.v)
		wantNoField(t, "Terrace", g, e, api.ErrForm)
	}
	for _, step := range []float32{0, minusZero, -1, tiny} {
		g, e := shape.Terrace(f, step, 0)
		wantNoField(t, "Terrace", g, e, api.ErrRange)
	}
	for _, s := range badFields() {
		g, e := shape.Terrace(s.f, nan, beyond)
		wantNoField(t, "Terrace", g, e, s.want)
	}
}
