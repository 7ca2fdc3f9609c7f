package export_test

import (
	"math"
	"strings"
	"testing"

	"tarnfell/api"
	"tarnfell/export"
	"tarnfell/level"
)

// badCamera is a camera with what is said of it.
type badCamera struct {
	c    api.Camera
	want api.Errno
}

func camera() api.Camera { return api.Camera{X: 1, Y: 2, H: 10, DX: 1, DY: 1, DH: -1, Zoom: 10} }

func badCameras() []badCamera {
	var l []badCamera
	with := func(want api.Errno, change func(c *api.Camera)) {
		c := camera()
		change(&c)
		l = append(l, badCamera{c, want})
	}
	for _, s := range badSingles(-top, top) {
		for i := range 7 {
			set := func(c *api.Camera, v float32) {
				*[]*float32{&c.X, &c.Y, &c.H, &c.DX, &c.DY, &c.DH, &c.Zoom}[i] = v
			}
			with(s.want, func(c *api.Camera) { set(c, s.v) })
			with(s.want, func(c *api.Camera) { c.X, c.Y, c.DX, c.Zoom = beyond, -beyond, beyond, -1; set(c, s.v) })
			with(api.ErrForm, func(c *api.Camera) { c.Zoom, c.X = nan, 0; set(c, s.v); c.DY = inf })
		}
	}
	for _, d := range [][2]float32{{0, 0}, {minusZero, 0}, {before(0x1p-10), 0}, {0, -before(0x1p-10)}, {tiny, tiny}, {0x1p-11, 0x1p-11}} {
		with(api.ErrRange, func(c *api.Camera) { c.DX, c.DY = d[0], d[1] })
	}
	for _, zoom := range []float32{0, -1, before(0x1p-10), after(1024), -1024, top, tiny} {
		with(api.ErrRange, func(c *api.Camera) { c.Zoom = zoom })
	}
	return l
}

// camera is one that is right.
func (n *numbers) camera() api.Camera {
	for {
		c := api.Camera{X: n.single() * 30, Y: n.single() * 30, H: n.single() * 30, DX: n.single(), DY: n.single(), DH: -n.single() * 2, Zoom: pickOf[float32](n, 1, 10, 0x1p-10, 1024, 3.3)}
		switch n.between(0, 9) {
		case 0:
			c.X, c.Y, c.H = n.height(top), n.height(top), n.height(top)
		case 1:
			c.DX, c.DY, c.DH = n.height(top), n.height(top), n.height(top)
		case 2:
			c.DX, c.DY = pickOf(n, 0, minusZero), pickOf[float32](n, 1, -1, top, 0x1p-10)
		case 3:
			c.DX, c.DY = pickOf[float32](n, 1, -1, -top, 0x1p-10), pickOf(n, 0, minusZero)
		}
		if root(plus(times(c.DX, c.DX), times(c.DY, c.DY))) >= 0x1p-10 {
			return c
		}
	}
}

func wantSpot(t *testing.T, c api.Camera, x, y, h float32) bool {
	t.Helper()
	want, ahead := spotOf(c, x, y, h)
	p, a, is, e := export.Project(c, x, y, h)
	switch {
	case ahead < 1:
		if is || p != (api.Spot{}) || a != 0 || e != api.OK {
			t.Errorf("Project of %v, %v, %v with %v: %v, %v, %v, error %d; want nothing", x, y, h, c, p, a, is, e)
		}
		return false
	case ahead > top:
		wantNothing(t, "Project", is || p != api.Spot{} || a != 0, e, api.ErrRange)
		return false
	}
	if !is || !sameBits(p.X, want.X) || !sameBits(p.Y, want.Y) || !sameBits(a, ahead) || e != api.OK {
		t.Errorf("Project of %v, %v, %v with %v: %v, %v, %v, error %d; want %v, %v", x, y, h, c, p, a, is, e, want, ahead)
	}
	if math.IsInf(float64(p.X+p.Y), 0) || math.IsNaN(float64(p.X+p.Y)) {
		t.Errorf("Project of %v, %v, %v with %v: %v is not finite", x, y, h, c, p)
	}
	return true
}

// P240: points of all kinds, as all kinds of cameras see them.
func TestProject(t *testing.T) {
	n := &numbers{state: 60}
	seen := 0
	for range 20000 {
		c := n.camera()
		for range 5 {
			x, y, h := n.single()*50, n.single()*50, n.single()*50
			switch n.between(0, 5) {
			case 0:
				x, y, h = n.height(top), n.height(top), n.height(top)
			case 1:
				x, y, h = n.single()*top, n.single()*top, n.single()*top
			}
			if wantSpot(t, c, x, y, h) {
				seen++
			}
		}
		wantSpot(t, c, c.X, c.Y, c.H)
	}
	if seen < 20000 {
		t.Error("too few points are seen:", seen)
	}
}

// P240: known points.
func TestKnownSpots(t *testing.T) {
	east := api.Camera{H: 10, DX: 1, DH: -1, Zoom: 10}
	south := api.Camera{X: 5, Y: 5, DY: 4, Zoom: 2}
	for _, s := range []struct {
		c       api.Camera
		x, y, h float32
		want    api.Spot
		ahead   float32
		is      bool
	}{
		{east, 5, 2, 5, api.Spot{X: 4}, 5, true}, {east, 5, -2, 5, api.Spot{X: -4}, 5, true}, {east, 5, 0, 10, api.Spot{Y: 10}, 5, true}, {east, 1, 0, 9, api.Spot{}, 1, true},
		{east, before(1), 0, 9, api.Spot{}, 0, false}, {east, 0, 5, 10, api.Spot{}, 0, false}, {east, -7, 0, 10, api.Spot{}, 0, false}, {east, -top, 0, 0, api.Spot{}, 0, false}, {east, top, 0, 10, api.Spot{Y: 10}, top, true},
		{south, 4, 7, 3, api.Spot{X: 1, Y: 3}, 2, true}, {south, 6, 7, -3, api.Spot{X: -1, Y: -3}, 2, true}, {south, 5, 4, 3, api.Spot{}, 0, false},
		{api.Camera{DX: 3, DY: 4, DH: 5, Zoom: 1}, 6, 8, 10, api.Spot{}, 10, true}, {api.Camera{DX: 3, DY: 4, DH: 5, Zoom: 5}, 2, 14, 13, api.Spot{X: 4, Y: -0.5 / 12.4 * 5}, 12.4, true},
	} {
		p, a, is, e := export.Project(s.c, s.x, s.y, s.h)
		near := func(a, b float32) bool { return math.Abs(float64(a-b)) < 1e-2 }
		if !near(p.X, s.want.X) && s.ahead != 12.4 || !near(p.Y, s.want.Y) && s.ahead != 12.4 || !near(a, s.ahead) || is != s.is || e != api.OK {
			t.Errorf("Project of %v, %v, %v with %v: %v, %v, %v, error %d; want %v, %v", s.x, s.y, s.h, s.c, p, a, is, e, s.want, s.ahead)
		}
	}
	p, a, is, e := export.Project(api.Camera{X: -top, DX: 1, Zoom: 1}, top, 0, 0)
	wantNothing(t, "Project", is || a != 0 || p != api.Spot{}, e, api.ErrRange)
	p, a, is, e = export.Project(api.Camera{X: -1, DX: 1, Zoom: 1}, top, 0, 0)
	wantNothing(t, "Project", is || a != 0 || p != api.Spot{}, e, api.ErrRange)
	p, a, is, e = export.Project(api.Camera{X: top, DX: 1, Zoom: 1}, -top, 0, 0)
	wantNothing(t, "Project", is || a != 0 || p != api.Spot{}, e, api.OK)
}

// P240, P241: the errors of cameras, of points and of signs, and their order.
func TestCameraErrors(t *testing.T) {
	f := row(1, 2)
	wantBad := func(f api.Field, c api.Camera, wide, high int, want api.Errno) {
		t.Helper()
		text, e := export.Draw(f, c, wide, high)
		wantNothing(t, "Draw", text != "", e, want)
	}
	for _, s := range badCameras() {
		for _, v := range []float32{0, 5, nan, beyond} {
			p, a, is, e := export.Project(s.c, v, v, v)
			wantNothing(t, "Project", is || a != 0 || p != api.Spot{}, e, s.want)
		}
		wantBad(f, s.c, 1, 1, s.want)
		wantBad(f, s.c, 0, 101, s.want)
		wantBad(row(nan), s.c, 0, 101, api.ErrForm)
		wantBad(row(beyond), s.c, 1, 1, api.ErrRange)
	}
	for _, bad := range badFields() {
		wantBad(bad.f, camera(), 5, 5, bad.want)
		wantBad(bad.f, api.Camera{Zoom: nan}, 0, 0, bad.want)
	}
	for _, s := range badSingles(-top, top) {
		for _, v := range [][3]float32{{s.v, 0, 0}, {0, s.v, 0}, {0, 0, s.v}, {beyond, s.v, 0}, {beyond, 0, s.v}, {s.v, s.v, s.v}} {
			p, a, is, e := export.Project(camera(), v[0], v[1], v[2])
			wantNothing(t, "Project", is || a != 0 || p != api.Spot{}, e, s.want)
		}
	}
	steep := api.Camera{DX: 0x1p-10, DH: top, Zoom: 1}
	for _, n := range append(outside(1, 100), 0) {
		wantBad(f, camera(), n, 5, api.ErrRange)
		wantBad(f, camera(), 5, n, api.ErrRange)
		wantBad(f, steep, n, 1, api.ErrRange)
	}
	wantBad(f, steep, 1, 1, api.ErrRange)
	// Of these rays the first ones are right, and the last one leads down too steeply.
	wantBad(f, api.Camera{DX: 1, DH: -top, Zoom: 1}, 1, 4, api.ErrRange)
	wantBad(f, api.Camera{DX: 1, DH: top, Zoom: 1}, 1, 4, api.ErrRange)
	for _, c := range []api.Camera{{DX: 0x1p-10, Zoom: 0x1p-10}, {DY: top, X: top, Y: top, H: top, DH: top, Zoom: 1024}, {DX: 1, DH: -top, Zoom: 1}} {
		if _, e := export.Draw(f, c, 1, 1); e != api.OK {
			t.Error("Draw", c, e)
		}
		if _, _, _, e := export.Project(c, 0, 0, 0); e != api.OK {
			t.Error("Project", c, e)
		}
	}
}

func wantDrawn(t *testing.T, f api.Field, c api.Camera, wide, high int) string {
	t.Helper()
	want, wantE := drawnOf(f, c, wide, high)
	text, e := export.Draw(f, c, wide, high)
	if text != want || e != wantE {
		t.Errorf("Draw of %v with %v, %d by %d: error %d,\n%s; want error %d,\n%s", f.Region, c, wide, high, e, text, wantE, want)
	}
	return text
}

// P241: what is drawn of fields of all kinds, ray by ray as level.Hit says.
func TestDraw(t *testing.T) {
	n := &numbers{state: 61}
	signs := map[rune]int{}
	for range 40 {
		for _, f := range n.fields(n.region(20)) {
			for _, s := range wantDrawn(t, f, n.camera(), n.between(1, 9), n.between(1, 7)) {
				signs[s]++
			}
		}
	}
	f := eachCell(region(-100, -100, 200, 200), func(p api.Point) float32 {
		return float32(math.Sin(float64(p.X)/9)*4 + math.Cos(float64(p.Y)/7)*3)
	})
	for _, c := range []api.Camera{{H: 20, DX: 1, DY: 1, DH: -0.5, Zoom: 20}, {X: -80, Y: 90, H: 6, DX: 1, DY: -1, Zoom: 30}, {X: 90, Y: -10, H: 3, DX: -1, Zoom: 15}} {
		for _, s := range wantDrawn(t, f, c, 40, 25) {
			signs[s]++
		}
	}
	for _, s := range "#%*+=-:. \n" {
		if signs[s] < 10 {
			t.Errorf("the sign %q is drawn %d times", s, signs[s])
		}
	}
	wantDrawn(t, flat(region(0, 0, 512, 128), 1), api.Camera{X: 5, Y: 6, H: 9, DX: 1, DY: 0.25, DH: -0.25, Zoom: 40}, 100, 2)
	wantDrawn(t, flat(region(0, 0, 128, 512), 1), api.Camera{X: 5, Y: 6, H: 9, DX: 0.25, DY: 1, DH: -0.25, Zoom: 40}, 1, 100)
}

// P241: a wall far away, and what is in front of it; times at the bounds of signs.
func TestKnownDrawings(t *testing.T) {
	east := func(x float32) api.Camera { return api.Camera{X: x, Y: 0.5, H: 0.5, DX: 1, Zoom: 1} }
	wall := of(0, 0, 1, 1, 1)
	for _, s := range []struct {
		x    float32
		want string
	}{
		{0, "#\n"}, {0.5, "#\n"}, {-7, "#\n"}, {before(-8) + 0.0001, "#\n"}, {-8, "%\n"}, {-15.5, "%\n"}, {-16, "*\n"}, {-24, "+\n"}, {-32, "=\n"}, {-40, "-\n"}, {-48, ":\n"}, {-55.5, ":\n"}, {-56, ".\n"},
		{-64, ".\n"}, {-72, ".\n"}, {-1000, ".\n"}, {-4096, ".\n"}, {-4097, " \n"}, {2, " \n"}, {-top, " \n"},
	} {
		text, e := export.Draw(wall, east(s.x), 1, 1)
		wantText(t, "Draw", text, e, s.want)
	}
	text, e := export.Draw(of(0, 0, 1, 1, 0), api.Camera{H: 10, DX: 1, DH: -1, Zoom: 10}, 2, 1)
	wantText(t, "Draw", text, e, "  \n")
	// At the wall, 4 away, a sign is 0.5 wide and 1 high.
	text, e = export.Draw(wall, api.Camera{X: -4, Y: 0.5, H: 0.5, DX: 1, Zoom: 8}, 8, 4)
	wantText(t, "Draw", text, e, "        \n   ##   \n   ##   \n   ##   \n")
	// To the right is where y is greater, as one looks to where x is greater.
	text, e = export.Draw(of(0, 1, 1, 1, 1), api.Camera{X: -4, Y: 0.5, H: 0.5, DX: 1, Zoom: 8}, 8, 2)
	wantText(t, "Draw", text, e, "     ## \n     ## \n")
}

// P241: the greatest drawings of the greatest fields end soon.
func TestGreatestDrawing(t *testing.T) {
	n := &numbers{state: 62}
	for _, r := range []api.Region{region(-256, -64, 512, 128), region(0, 0, 256, 256)} {
		f := n.field(r, n.single)
		for _, c := range []api.Camera{{X: float32(r.X), Y: float32(r.Y), H: 3, DX: 1, DY: 1, Zoom: 50}, {X: float32(r.X), Y: float32(r.Y), H: 30, DX: 1, DY: 0.5, DH: -0.1, Zoom: 30}} {
			text, e := export.Draw(f, c, 100, 100)
			if e != api.OK || strings.Count(text, "\n") != 100 || len(text) != 10100 {
				t.Error("Draw", len(text), e)
			}
			for range 20 {
				column, line := n.between(0, 99), n.between(0, 99)
				s, struck, e := level.Hit(f, rayOf(c, column, line, 100, 100))
				want := byte(' ')
				if struck {
					want = "#%*+=-:."[floor(over(s.T, 8), 0, 7)]
				}
				if sign := text[line*101+column]; sign != want || e != api.OK {
					t.Errorf("the sign in column %d, line %d is %q, want %q; error %d", column, line, sign, want, e)
				}
			}
		}
	}
}
