package shape_test

import (
	"math"
	"slices"
	"testing"

	"tarnfell/api"
	"tarnfell/shape"
)

// badFault is a fault with what CheckFault says of it.
type badFault struct {
	l    api.Fault
	want api.Errno
}

func badFaults() []badFault {
	var l []badFault
	for _, height := range []float32{1, nan, -inf, beyond} {
		for _, n := range outside(-1000, 1000) {
			l = append(l, badFault{api.Fault{A: n, Throw: height}, api.ErrRange}, badFault{api.Fault{B: n, Throw: height}, api.ErrRange}, badFault{api.Fault{A: 1, B: n, Throw: height}, api.ErrRange})
		}
		for _, n := range outside(-1<<40, 1<<40) {
			l = append(l, badFault{api.Fault{A: 1, C: n, Throw: height}, api.ErrRange}, badFault{api.Fault{C: n, Throw: height}, api.ErrRange})
		}
		for _, n := range outside(0, 4096) {
			l = append(l, badFault{api.Fault{B: 1, Width: n, Throw: height}, api.ErrRange}, badFault{api.Fault{Width: n, Throw: height}, api.ErrRange})
		}
		l = append(l, badFault{api.Fault{Throw: height}, api.ErrConflict}, badFault{api.Fault{C: 5, Width: 4096, Throw: height}, api.ErrConflict})
	}
	for _, s := range badSingles(-top, top) {
		l = append(l, badFault{api.Fault{A: -1000, B: 1000, C: -1 << 40, Width: 4096, Throw: s.v}, s.want})
	}
	return l
}

// P49: what a fault may be, and the errors, in their order.
func TestCheckFault(t *testing.T) {
	for _, l := range []api.Fault{
		{A: 1}, {B: 1}, {A: -1000, B: 1000, C: 1 << 40, Width: 4096, Throw: top}, {A: 1000, B: -1000, C: -1 << 40, Throw: -top}, {A: 3, B: 4, Throw: minusZero},
	} {
		if e := shape.CheckFault(l); e != api.OK {
			t.Error("CheckFault", l, e)
		}
	}
	for _, s := range badFaults() {
		if e := shape.CheckFault(s.l); e != s.want {
			t.Errorf("CheckFault(%v) is %d, want %d", s.l, e, s.want)
		}
	}
}

// someFault goes near the place (x, y).
func (n *numbers) someFault(x, y int) api.Fault {
	a, b := n.between(-1000, 1000), n.between(1, 1000)
	if n.between(0, 1) == 0 {
		a, b = n.between(-2, 2), n.between(1, 2)
	}
	l := api.Fault{A: a, B: b, C: -a*x - b*y, Width: n.between(0, 9), Throw: n.single() * 1000}
	switch n.between(0, 3) {
	case 0:
		l.Width = n.between(0, 4096)
	case 1:
		l.A, l.B, l.C = l.B, -l.A, l.B*-x+l.A*y
	case 2:
		l.Throw = n.height(1000)
	}
	return l
}

// P49, G6: Throw on both sides of a fault and between, with each operation rounded.
func TestThrow(t *testing.T) {
	n := &numbers{state: 9}
	none, part, all := 0, 0, 0
	for range 2000 {
		x, y := n.place(), n.place()
		l := n.someFault(x, y)
		for range 10 {
			px, py := max(min(x+n.between(-9, 9), api.MaxPlace), -api.MaxPlace), n.between(max(y-9, -api.MaxPlace), min(y+9, api.MaxPlace))
			v, e := shape.Throw(l, px, py)
			wantSingle(t, "Throw", v, e, thrown(l, px, py))
			switch v {
			case 0:
				none++
			case l.Throw:
				all++
			default:
				part++
			}
		}
	}
	if none < 1000 || part < 1000 || all < 1000 {
		t.Error("Throw", none, part, all)
	}
}

// P49: where a fault begins and ends, and on which side it lifts.
func TestKnownThrows(t *testing.T) {
	for _, s := range []struct {
		l    api.Fault
		x, y int
		want float32
	}{
		{api.Fault{A: 1, Throw: 7}, 0, 5, 7}, {api.Fault{A: 1, Throw: 7}, -1, 5, 0}, {api.Fault{A: -1, Throw: 7}, 0, 0, 7}, {api.Fault{A: -1, Throw: 7}, 1, 0, 0},
		{api.Fault{B: 1, C: 3, Throw: -7}, 9, -3, -7}, {api.Fault{B: 1, C: 3, Throw: -7}, 9, -4, 0},
		{api.Fault{A: 3, B: 4, C: 15, Width: 3, Throw: 8}, 0, 0, 8}, {api.Fault{A: 3, B: 4, C: -15, Width: 3, Throw: 8}, 0, 0, 0},
		{api.Fault{A: 3, B: 4, Width: 3, Throw: 8}, 0, 0, 4}, {api.Fault{A: 3, B: 4, C: 5, Width: 2, Throw: 32}, 0, 0, 27}, {api.Fault{A: 3, B: 4, C: -5, Width: 2, Throw: 32}, 0, 0, 5},
		{api.Fault{A: 1, C: 4095, Width: 4096, Throw: 1}, 0, 0, eased(over(8191, 8192))}, {api.Fault{A: 1, C: 4096, Width: 4096, Throw: 0.3}, 0, 0, 0.3}, {api.Fault{A: 1, C: -4096, Width: 4096, Throw: 1}, 0, 0, 0},
		{api.Fault{A: 1, Throw: minusZero}, 0, 0, minusZero}, {api.Fault{A: 1, Throw: minusZero}, -1, 0, 0}, {api.Fault{A: 1, Width: 1, Throw: minusZero}, 0, 0, minusZero}, {api.Fault{A: 1, Width: 1, Throw: minusZero}, -1, 0, 0},
		{api.Fault{A: 1000, B: 1000, C: 1 << 40, Width: 4096, Throw: top}, api.MaxPlace, api.MaxPlace, top},
		{api.Fault{A: 1000, B: 1000, C: -1 << 40, Width: 4096, Throw: top}, -api.MaxPlace, -api.MaxPlace, 0},
		{api.Fault{A: 1000, B: 1000, C: -2000 * api.MaxPlace, Width: 4096, Throw: -top}, api.MaxPlace, api.MaxPlace, -top / 2},
		{api.Fault{A: 1000, B: -1000, C: -2000*api.MaxPlace - 1, Throw: 1}, api.MaxPlace, -api.MaxPlace, 0},
		{api.Fault{A: 1000, B: -1000, C: -2000 * api.MaxPlace, Throw: 1}, api.MaxPlace, -api.MaxPlace, 1},
	} {
		v, e := shape.Throw(s.l, s.x, s.y)
		wantSingle(t, "Throw", v, e, s.want)
	}
}

// badFold is a fold with what CheckFold says of it.
type badFold struct {
	o    api.Fold
	want api.Errno
}

func badFolds() []badFold {
	var l []badFold
	for _, height := range []float32{1, nan, -inf, beyond} {
		for _, n := range outside(-1000, 1000) {
			l = append(l, badFold{api.Fold{A: n, Period: 2, Height: height}, api.ErrRange}, badFold{api.Fold{B: n, Period: 2, Height: height}, api.ErrRange}, badFold{api.Fold{A: 1, B: n, Period: 2, Height: height}, api.ErrRange})
		}
		for _, n := range append(outside(2, 1<<24), 0, -2) {
			l = append(l, badFold{api.Fold{A: 1, Period: n, Height: height}, api.ErrRange}, badFold{api.Fold{Period: n, Height: height}, api.ErrRange})
		}
		l = append(l, badFold{api.Fold{Period: 2, Height: height}, api.ErrConflict}, badFold{api.Fold{Period: 1 << 24, Height: height}, api.ErrConflict})
	}
	for _, s := range badSingles(-top, top) {
		l = append(l, badFold{api.Fold{A: -1000, B: 1000, Period: 1 << 24, Height: s.v}, s.want})
	}
	return l
}

// P50: what a fold may be, and the errors, in their order.
func TestCheckFold(t *testing.T) {
	for _, o := range []api.Fold{
		{A: 1, Period: 2}, {B: 1, Period: 3}, {A: -1000, B: 1000, Period: 1 << 24, Height: top}, {A: 1000, B: -1000, Period: 2, Height: -top}, {A: 3, B: 4, Period: 99, Height: minusZero},
	} {
		if e := shape.CheckFold(o); e != api.OK {
			t.Error("CheckFold", o, e)
		}
	}
	for _, s := range badFolds() {
		if e := shape.CheckFold(s.o); e != s.want {
			t.Errorf("CheckFold(%v) is %d, want %d", s.o, e, s.want)
		}
	}
}

func (n *numbers) someFold() api.Fold {
	o := api.Fold{A: n.between(1, 1000), B: n.between(-1000, 1000), Period: n.between(2, 1<<24), Height: n.single() * 1000}
	switch n.between(0, 3) {
	case 0:
		o.A, o.Period = -o.A, n.between(2, 9)
	case 1:
		o.A, o.B, o.Period = 0, o.A, n.between(2, 1000)
	case 2:
		o.Height = n.height(1000)
	}
	return o
}

// P50, G6: Lift on both sides of 0 and of a wave, with each operation rounded.
func TestLift(t *testing.T) {
	n := &numbers{state: 10}
	for range 20000 {
		o, x, y := n.someFold(), n.place(), n.place()
		v, e := shape.Lift(o, x, y)
		wantSingle(t, "Lift", v, e, lifted(o, x, y))
		x, y = n.between(-20, 20), n.between(-20, 20)
		v, e = shape.Lift(o, x, y)
		wantSingle(t, "Lift", v, e, lifted(o, x, y))
	}
}

// P50: known waves, which are the same on both sides of their tops, and repeat.
func TestKnownLifts(t *testing.T) {
	wave := []float32{0, 5, 16, 27, 32, 27, 16, 5}
	for x := -80; x <= 80; x++ {
		for _, s := range []struct{ o, at api.Point }{
			{api.Point{X: 1}, api.Point{X: x, Y: 7}},
			{api.Point{Y: 1}, api.Point{X: 7, Y: x}},
			{api.Point{X: -1}, api.Point{X: x, Y: -3}},
			{api.Point{X: 2, Y: -1}, api.Point{X: 100, Y: 200 - x}},
		} {
			v, e := shape.Lift(api.Fold{A: s.o.X, B: s.o.Y, Period: 8, Height: 32}, s.at.X, s.at.Y)
			wantSingle(t, "Lift", v, e, wave[(x+80)%8])
		}
	}
	for _, s := range []struct {
		o    api.Fold
		x, y int
		want float32
	}{
		{api.Fold{A: 1, Period: 2, Height: top}, 1, 0, top}, {api.Fold{A: 1, Period: 2, Height: top}, -1, 0, top}, {api.Fold{A: 1, Period: 2, Height: top}, 2, 0, 0},
		{api.Fold{A: 1, Period: 4, Height: minusZero}, 2, 0, minusZero}, {api.Fold{A: 1, Period: 4, Height: -1}, 0, 0, minusZero},
		{api.Fold{A: 1, Period: 3, Height: 1}, 1, 0, eased(over(2, 3))}, {api.Fold{A: 1, Period: 3, Height: 1}, 2, 0, eased(minus(2, over(4, 3)))},
		{api.Fold{A: 1000, B: 1000, Period: 1 << 24, Height: 3}, api.MaxPlace, api.MaxPlace, 0},
		{api.Fold{A: 1, B: 1, Period: 1 << 24, Height: 3}, api.MaxPlace, api.MaxPlace, 3},
		{api.Fold{A: 1, B: 1, Period: 1 << 24, Height: 3}, -api.MaxPlace, -api.MaxPlace, 3},
		{api.Fold{A: 1, Period: 1 << 24, Height: 1}, -1, 0, eased(0x1p-23)},
	} {
		v, e := shape.Lift(s.o, s.x, s.y)
		wantSingle(t, "Lift", v, e, s.want)
	}
}

// P49, P50: the errors of Throw and Lift, and their order.
func TestBendErrors(t *testing.T) {
	for _, s := range badFaults() {
		for _, x := range []int{0, api.MaxPlace + 1} {
			v, e := shape.Throw(s.l, x, 0)
			wantNoSingle(t, "Throw", v, e, s.want)
		}
	}
	for _, s := range badFolds() {
		for _, x := range []int{0, api.MaxPlace + 1} {
			v, e := shape.Lift(s.o, x, 0)
			wantNoSingle(t, "Lift", v, e, s.want)
		}
	}
	for _, p := range badPlaces() {
		v, e := shape.Throw(api.Fault{A: 1, Throw: 1}, p.X, p.Y)
		wantNoSingle(t, "Throw", v, e, api.ErrPlace)
		v, e = shape.Lift(api.Fold{A: 1, Period: 2, Height: 1}, p.X, p.Y)
		wantNoSingle(t, "Lift", v, e, api.ErrPlace)
	}
}

// P49, P50, G6: Faults and Folds add in the order of the list, and round each sum.
func TestFaultsAndFolds(t *testing.T) {
	n := &numbers{state: 11}
	for _, f := range n.fields(1 << 19) {
		for _, many := range []int{0, 1, 2, 3, 7, 100} {
			var faults []api.Fault
			var folds []api.Fold
			for range many {
				faults = append(faults, n.someFault(f.X+f.W/2, f.Y+f.H/2))
				folds = append(folds, n.someFold())
			}
			g, e := shape.Faults(f, faults)
			want := eachCell(f.Region, func(x, y int) float32 {
				v := valueAt(f, x, y)
				for _, l := range faults {
					v = plus(v, thrown(l, x, y))
				}
				return v
			})
			wantField(t, "Faults", g, e, want)
			g, e = shape.Folds(f, folds)
			want = eachCell(f.Region, func(x, y int) float32 {
				v := valueAt(f, x, y)
				for _, o := range folds {
					v = plus(v, lifted(o, x, y))
				}
				return v
			})
			wantField(t, "Folds", g, e, want)
		}
	}
}

// raising lifts all places by h.
func raising(h float32) (api.Fault, api.Fold) {
	return api.Fault{A: 1, C: 1 << 40, Throw: h}, api.Fold{A: 1, Period: 2, Height: h}
}

// P49, P50: sums in order, of which those on the way may be beyond heights (G7), and zeros.
func TestBendsInOrder(t *testing.T) {
	for _, s := range []struct{ v, a, b, c, want float32 }{
		{1, 0x1p-24, 0x1p-24, 0, 1}, {0x1p-24, 0x1p-24, 1, 0, 1 + 0x1p-23}, {0x1p-24, 1, 0x1p-24, 0, 1}, {top, top, -top, 0, top}, {-top, -1, -1, 3, 1 - top},
		{top, top, top, -2, nan}, {-top, 0, -0.125, 0, nan}, {minusZero, minusZero, minusZero, minusZero, minusZero}, {minusZero, 0, minusZero, minusZero, 0}, {minusZero, minusZero, minusZero, 0, 0},
	} {
		var faults []api.Fault
		var folds []api.Fold
		for _, h := range []float32{s.a, s.b, s.c} {
			fault, fold := raising(h)
			faults, folds = append(faults, fault), append(folds, fold)
		}
		f := of(1, 0, 1, 1, s.v)
		for _, make := range []func() (api.Field, api.Errno){
			func() (api.Field, api.Errno) { return shape.Faults(f, faults) },
			func() (api.Field, api.Errno) { return shape.Folds(f, folds) },
		} {
			g, e := make()
			if math.IsNaN(float64(s.want)) {
				wantNoField(t, "the sum", g, e, api.ErrRange)
			} else {
				wantField(t, "the sum", g, e, of(1, 0, 1, 1, s.want))
			}
		}
	}
}

// P49, P50, G3: nothing to add leaves all bits as they are.
func TestNoBends(t *testing.T) {
	f := row(minusZero, 0, top, tiny)
	for _, l := range [][]api.Fault{nil, {}} {
		g, e := shape.Faults(f, l)
		wantField(t, "Faults", g, e, f)
	}
	for _, l := range [][]api.Fold{nil, {}} {
		g, e := shape.Folds(f, l)
		wantField(t, "Folds", g, e, f)
	}
}

// P49, P50, G3: the errors of Faults and Folds; of a list the first bad item decides, but too long a list comes first.
func TestBendListErrors(t *testing.T) {
	f := row(1, 2)
	fault, fold := raising(1)
	faults, folds := slices.Repeat([]api.Fault{fault}, 100), slices.Repeat([]api.Fold{fold}, 100)
	wantFaults := func(f api.Field, l []api.Fault, want api.Errno) {
		g, e := shape.Faults(f, l)
		wantNoField(t, "Faults", g, e, want)
	}
	wantFolds := func(f api.Field, l []api.Fold, want api.Errno) {
		g, e := shape.Folds(f, l)
		wantNoField(t, "Folds", g, e, want)
	}
	for _, s := range badFaults() {
		for _, l := range [][]api.Fault{{s.l}, {fault, s.l, {}}, append(slices.Clip(faults[:99]), s.l)} {
			wantFaults(f, l, s.want)
		}
		wantFaults(f, append(slices.Clip(faults), s.l), api.ErrLarge)
	}
	for _, s := range badFolds() {
		for _, l := range [][]api.Fold{{s.o}, {fold, s.o, {}}, append(slices.Clip(folds[:99]), s.o)} {
			wantFolds(f, l, s.want)
		}
		wantFolds(f, append(slices.Clip(folds), s.o), api.ErrLarge)
	}
	wantFaults(f, []api.Fault{{A: 1, Throw: nan}, {A: 1001}}, api.ErrForm)
	wantFaults(f, []api.Fault{{}, {A: 1, Throw: nan}}, api.ErrConflict)
	wantFolds(f, []api.Fold{{A: 1, Period: 2, Height: nan}, {A: 1, Period: 1}}, api.ErrForm)
	wantFolds(f, []api.Fold{{Period: 2}, {A: 1, Period: 2, Height: nan}}, api.ErrConflict)
	// Bad items come ahead of a sum that is no height.
	wantFaults(row(top), []api.Fault{fault, {}}, api.ErrConflict)
	wantFolds(of(1, 0, 1, 1, top), []api.Fold{fold, {Period: 2}}, api.ErrConflict)
	for _, s := range badFields() {
		wantFaults(s.f, slices.Repeat(faults, 2), s.want)
		wantFaults(s.f, []api.Fault{{}}, s.want)
		wantFolds(s.f, slices.Repeat(folds, 2), s.want)
		wantFolds(s.f, []api.Fold{{}}, s.want)
	}
}
