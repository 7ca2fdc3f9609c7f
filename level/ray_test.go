package level_test

import (
	"slices"
	"testing"

	"tarnfell/api"
	"tarnfell/level"
)

// P212: Bounds of all forms of fields; of two zeros the first one, row by row.
func TestBounds(t *testing.T) {
	n := &numbers{state: 30}
	for _, r := range append(regions(), region(0, 0, 3, 16), region(-9, 0, 16, 16), region(5, 5, 33, 2)) {
		for _, f := range n.fields(r, top) {
			l, e := level.Bounds(f)
			wantSame(t, "Bounds", l, e, boundsOf(f), sameBox)
		}
	}
}

// P212: known boxes.
func TestKnownBounds(t *testing.T) {
	l, e := level.Bounds(of(7, -9, 3, 2, 1, 5, 2, -3, 0, 4))
	wantSame(t, "Bounds", l, e, []api.Box{
		{X: 0, Y: 0, Low: 1, High: 1}, {X: 1, Y: 0, Low: 5, High: 5}, {X: 2, Y: 0, Low: 2, High: 2},
		{X: 0, Y: 1, Low: -3, High: -3}, {X: 1, Y: 1, Low: 0, High: 0}, {X: 2, Y: 1, Low: 4, High: 4},
		{Level: 1, X: 0, Low: -3, High: 5}, {Level: 1, X: 1, Low: 2, High: 4}, {Level: 2, Low: -3, High: 5},
	}, sameBox)
	l, e = level.Bounds(of(5, 5, 1, 1, minusZero))
	wantSame(t, "Bounds", l, e, []api.Box{{Low: minusZero, High: minusZero}}, sameBox)
	// The first zero of the square is in its right half.
	l, e = level.Bounds(of(0, 0, 4, 2, 1, 1, minusZero, 1, 0, 1, 1, 1))
	wantSame(t, "Bounds", l[8:], e, []api.Box{{Level: 1, Low: 0, High: 1}, {Level: 1, X: 1, Low: minusZero, High: 1}, {Level: 2, Low: minusZero, High: 1}}, sameBox)
	l, e = level.Bounds(of(0, 0, 4, 2, -1, -1, minusZero, -1, 0, -1, -1, -1))
	wantSame(t, "Bounds", l[8:], e, []api.Box{{Level: 1, Low: -1, High: 0}, {Level: 1, X: 1, Low: -1, High: minusZero}, {Level: 2, Low: -1, High: minusZero}}, sameBox)
	for _, s := range []struct {
		r    api.Region
		want int
	}{{region(0, 0, 512, 128), 65536 + 16384 + 4096 + 1024 + 256 + 64 + 16 + 4 + 2 + 1}, {region(0, 0, 1, 5), 5 + 3 + 2 + 1}, {region(0, 0, 2, 1), 3}} {
		l, e = level.Bounds(flat(s.r, 1))
		if e != api.OK || len(l) != s.want {
			t.Error("Bounds", s.r, len(l), e)
		}
	}
}

// singlesOf are the numbers of a ray, in the order in which they are asked for.
func singlesOf(r *api.Ray) []*float32 {
	return []*float32{&r.X, &r.Y, &r.H, &r.DX, &r.DY, &r.DH, &r.Most}
}

// badRay is a ray with what CheckRay says of it.
type badRay struct {
	r    api.Ray
	want api.Errno
}

func badRays() []badRay {
	good := api.Ray{X: 1, Y: 2, H: 3, DX: 4, DY: 5, DH: 6, Most: 7}
	l := []badRay{
		{api.Ray{}, api.ErrConflict}, {api.Ray{DX: minusZero, DY: 0, DH: 1, Most: 1}, api.ErrConflict}, {api.Ray{DY: minusZero, DH: -1}, api.ErrConflict},
		{api.Ray{Most: -1}, api.ErrConflict}, {api.Ray{Most: 65537}, api.ErrConflict}, {api.Ray{Most: beyond}, api.ErrRange}, {api.Ray{X: beyond}, api.ErrRange}, {api.Ray{H: nan}, api.ErrForm},
		{api.Ray{X: 4194304, DX: 1}, api.ErrRange}, {api.Ray{Y: -4194305, DX: 1}, api.ErrRange},
	}
	for i := range 7 {
		for _, s := range badSingles(-top, top) {
			r := good
			*singlesOf(&r)[i] = s.v
			l = append(l, badRay{r, s.want})
			// A number that is none is asked for in all of them first.
			*singlesOf(&r)[(i+3)%7] = beyond
			l = append(l, badRay{r, s.want})
		}
	}
	for _, most := range []float32{-1, -tiny, after(65536), 65537, top, -top} {
		l = append(l, badRay{api.Ray{DX: 1, Most: most}, api.ErrRange}, badRay{api.Ray{DY: -tiny, Most: most}, api.ErrRange})
	}
	return l
}

func goodRays() []api.Ray {
	return []api.Ray{
		{DX: 1}, {DY: -1}, {DX: tiny}, {DY: -tiny, DX: minusZero}, {DX: 1, Most: 65536}, {DX: 1, Most: minusZero}, {DX: top, DY: -top, DH: top, X: -top, Y: top, H: -top, Most: tiny},
	}
}

// P213: CheckRay, and the errors of Hit and HitBounds.
func TestCheckRay(t *testing.T) {
	f := flat(region(0, 0, 3, 3), 1)
	b := boundsOf(f)
	for _, s := range badRays() {
		wantError(t, "CheckRay", level.CheckRay(s.r), s.want)
		v, is, e := level.Hit(f, s.r)
		wantNothing(t, "Hit", is || v != api.Strike{}, e, s.want)
		for _, b := range [][]api.Box{b, nil} {
			v, is, n, e := level.HitBounds(f, b, s.r)
			wantNothing(t, "HitBounds", is || n != 0 || v != api.Strike{}, e, s.want)
		}
	}
	for _, r := range goodRays() {
		wantError(t, "CheckRay", level.CheckRay(r), api.OK)
		_, _, e := level.Hit(f, r)
		wantError(t, "Hit", e, api.OK)
		_, _, _, e = level.HitBounds(f, b, r)
		wantError(t, "HitBounds", e, api.OK)
	}
}

// P213: boxes that are not just those of Bounds.
func TestWrongBoxes(t *testing.T) {
	f := of(4, 4, 3, 2, 1, 5, 2, -3, 0, 4)
	right := boundsOf(f)
	r := api.Ray{X: 4.5, Y: 4.5, H: 9, DX: 1, DY: 0.25, DH: -1, Most: 99}
	wrong := [][]api.Box{nil, right[:len(right)-1], right[1:], append(slices.Clone(right), right[len(right)-1]), {}}
	for i := range right {
		for _, change := range []func(b *api.Box){
			func(b *api.Box) { b.Level++ }, func(b *api.Box) { b.X-- }, func(b *api.Box) { b.Y++ },
			func(b *api.Box) { b.Low = before(b.Low) }, func(b *api.Box) { b.High = after(b.High) }, func(b *api.Box) { b.Low = nan }, func(b *api.Box) { b.High = nan },
		} {
			b := slices.Clone(right)
			change(&b[i])
			wrong = append(wrong, b)
		}
	}
	swapped := slices.Clone(right)
	swapped[0], swapped[1] = swapped[1], swapped[0]
	for _, b := range append(wrong, swapped, boundsOf(flat(f.Region, 1))) {
		v, is, n, e := level.HitBounds(f, b, r)
		wantNothing(t, "HitBounds", is || n != 0 || v != api.Strike{}, e, api.ErrForm)
	}
	wantRay(t, f, r)
}

// wantRay wants Hit and HitBounds to be right, and reports whether the ray strikes something.
func wantRay(t *testing.T, f api.Field, r api.Ray) bool {
	t.Helper()
	want, some := hitOf(f, r)
	s, is, e := level.Hit(f, r)
	if !sameStrike(s, want) || is != some || e != api.OK {
		t.Errorf("Hit of %v: %v, %v, error %d; want %v, %v", r, s, is, e, want, some)
	}
	b, _ := level.Bounds(f)
	s, is, n, e := level.HitBounds(f, b, r)
	looked := lookedAt(f, r)
	if !sameStrike(s, want) || is != some || n != looked || e != api.OK {
		t.Errorf("HitBounds of %v: %v, %v, %d cells, error %d; want %v, %v, %d cells", r, s, is, n, e, want, some, looked)
	}
	if n > len(f.V) {
		t.Error("HitBounds looks at too many cells", n)
	}
	l, hits, e := level.Hits(f, []api.Ray{r})
	if len(l) != 1 || !sameStrike(l[0], want) || !slices.Equal(hits, []bool{some}) || e != api.OK {
		t.Errorf("Hits of %v: %v, %v, error %d; want %v, %v", r, l, hits, e, want, some)
	}
	return some
}

// ray is one that begins somewhere around a region, mostly at places where cells end, and goes somewhere.
func (n *numbers) ray(r api.Region, most float32) api.Ray {
	place := func(from, many int) float32 {
		v := float32(n.between(from-many, from+2*many))
		if n.between(0, 2) > 0 {
			v += n.share()
		}
		return v
	}
	ahead := func() float32 {
		switch n.between(0, 5) {
		case 0:
			return [2]float32{0, minusZero}[n.between(0, 1)]
		case 1:
			return float32(n.between(-2, 2))
		case 2:
			return n.height(top)
		}
		return n.single()
	}
	v := api.Ray{X: place(r.X, r.W), Y: place(r.Y, r.H), H: n.single() * 2 * most, DX: ahead(), DY: ahead(), DH: n.single() * most / 2, Most: float32(n.between(0, 40))}
	if n.between(0, 4) == 0 {
		v.DH = 0
	}
	if v.DX == 0 && v.DY == 0 {
		v.DX = 1
	}
	return v
}

// P213: what Hits finds with many rays is what Hit finds with each of them; the first bad one decides.
func TestManyRays(t *testing.T) {
	n := &numbers{state: 34}
	for _, r := range []api.Region{region(0, 0, 9, 7), region(-5, -3, 12, 8), region(3, -6, 1, 10), region(-20, 7, 16, 1), region(0, 0, 1, 1)} {
		f := n.field(r, n.single)
		var rays []api.Ray
		for range 50 {
			rays = append(rays, n.ray(r, 1))
		}
		l, is, e := level.Hits(f, rays)
		if len(l) != len(rays) || len(is) != len(rays) || e != api.OK {
			t.Error("Hits", len(l), len(is), e)
			continue
		}
		for i, r := range rays {
			if s, some, _ := level.Hit(f, r); !sameStrike(l[i], s) || is[i] != some {
				t.Errorf("Hits of the ray %d, %v: %v, %v; want %v, %v", i, r, l[i], is[i], s, some)
			}
		}
	}
	for _, rays := range [][]api.Ray{nil, {}} {
		l, is, e := level.Hits(row(1), rays)
		wantNothing(t, "Hits", len(l) > 0 || len(is) > 0, e, api.OK)
	}
	for _, s := range badRays() {
		for _, rays := range [][]api.Ray{{s.r}, {{DX: 1}, s.r}, {s.r, {}}, {{DX: 1, Most: 1}, s.r, {X: nan}, {}}} {
			l, is, e := level.Hits(row(1), rays)
			wantNothing(t, "Hits", len(l) > 0 || len(is) > 0, e, s.want)
		}
	}
}

// P213, P287, G6: what is found by bounds is what is found by looking at all cells, to the bit.
func TestHits(t *testing.T) {
	n := &numbers{state: 31}
	hits, misses := 0, 0
	for _, r := range []api.Region{region(0, 0, 9, 7), region(-5, -3, 12, 8), region(3, -6, 1, 10), region(-20, 7, 16, 1), region(0, 0, 1, 1), region(-1, -1, 2, 2), region(-7, 2, 17, 13), region(1000000, -1000000, 6, 5)} {
		for _, f := range append(n.fields(r, 5), n.field(r, func() float32 { return n.single() * top })) {
			most := max(1, size(slices.Max(f.V)))
			for range 250 {
				if wantRay(t, f, n.ray(r, min(most, top/2))) {
					hits++
				} else {
					misses++
				}
			}
		}
	}
	if hits < 1000 || misses < 1000 {
		t.Error("hits and misses:", hits, misses)
	}
}

// P213: rays along the sides and through the corners of cells; of equal times the first cell counts.
func TestRaysAlongSides(t *testing.T) {
	n := &numbers{state: 32}
	r := region(-3, -2, 7, 6)
	for _, f := range []api.Field{flat(r, 1), n.field(r, func() float32 { return float32(n.between(0, 2)) }), n.field(r, func() float32 { return float32(n.between(0, 1)) * 4 })} {
		for x := -5; x <= 6; x++ {
			for y := -4; y <= 5; y++ {
				for _, d := range []api.Spot{{X: 1}, {X: -1}, {Y: 1}, {Y: -1}, {X: 1, Y: 1}, {X: -1, Y: 1}, {X: 1, Y: -1}, {X: -1, Y: -1}, {X: 2, Y: 1}, {X: minusZero, Y: 0.5}} {
					for _, h := range []float32{-1, 1, 2, 3} {
						wantRay(t, f, api.Ray{X: float32(x), Y: float32(y), H: h, DX: d.X, DY: d.Y, Most: 20})
						wantRay(t, f, api.Ray{X: float32(x), Y: float32(y), H: h, DX: d.X, DY: d.Y, DH: -0.5, Most: 20})
					}
				}
			}
		}
	}
}

// P213: known strikes.
func TestKnownStrikes(t *testing.T) {
	f := of(-2, 10, 4, 2, 0, 0, 5, 0, 1, 2, 3, 4)
	for _, s := range []struct {
		r    api.Ray
		want api.Strike
		is   bool
	}{
		// Against the wall of a column, over it, and below it.
		{api.Ray{X: -4, Y: 10.5, H: 3, DX: 2, Most: 10}, api.Strike{Cell: at(0, 10), T: 2}, true},
		{api.Ray{X: -4, Y: 10.5, H: 5.5, DX: 2, Most: 10}, api.Strike{}, false},
		{api.Ray{X: -4, Y: 10.5, H: 5, DX: 2, Most: 10}, api.Strike{Cell: at(0, 10), T: 2}, true},
		{api.Ray{X: -4, Y: 10.5, H: -1, DX: 2, Most: 10}, api.Strike{Cell: at(-2, 10), T: 1}, true},
		// Not before Most, just then, and not behind the field.
		{api.Ray{X: -4, Y: 10.5, H: 3, DX: 2, Most: before(2)}, api.Strike{}, false},
		{api.Ray{X: -4, Y: 10.5, H: 3, DX: 2, Most: 2}, api.Strike{Cell: at(0, 10), T: 2}, true},
		{api.Ray{X: 2.5, Y: 10.5, H: -1, DX: 2, Most: 10}, api.Strike{}, false},
		{api.Ray{X: -4, Y: 10.5, H: -1, DX: -2, Most: 10}, api.Strike{}, false},
		// From above on the top of a column, at a time within the cell.
		{api.Ray{X: 0.5, Y: 10.5, H: 6, DX: 1, DH: -4, Most: 10}, api.Strike{Cell: at(0, 10), T: 0.25}, true},
		{api.Ray{X: 1.5, Y: 11.5, H: 6, DX: -1, DH: -1, Most: 10}, api.Strike{}, false},
		{api.Ray{X: 1.5, Y: 11.5, H: 6, DX: -0.25, DH: -1, Most: 10}, api.Strike{Cell: at(1, 11), T: 2}, true},
		// At the beginning, inside of a column.
		{api.Ray{X: 0.5, Y: 10.5, H: 4, DX: 1, DH: 9, Most: 10}, api.Strike{Cell: at(0, 10)}, true},
		{api.Ray{X: 0.5, Y: 10.5, H: 4, DY: 1, Most: 0}, api.Strike{Cell: at(0, 10)}, true},
		// At the corner of four cells those that the ray touches count, too; the first one is struck.
		{api.Ray{X: -1, Y: 11, H: 0, DX: 1, DY: 1, Most: 10}, api.Strike{Cell: at(-2, 10)}, true},
		{api.Ray{X: -1, Y: 11, H: 0, DX: 1, DY: -1, Most: 10}, api.Strike{Cell: at(-2, 10), T: minusZero}, true},
		// Along a side only the cells behind it.
		{api.Ray{X: 0, Y: 12.5, H: 4, DY: -1, Most: 10}, api.Strike{Cell: at(0, 10), T: 1.5}, true},
		{api.Ray{X: before(0), Y: 12.5, H: 4, DY: -1, Most: 10}, api.Strike{}, false},
		{api.Ray{X: 1, Y: 12.5, H: 4, DY: -1, Most: 10}, api.Strike{Cell: at(1, 11), T: 0.5}, true},
		{api.Ray{X: 2, Y: 12.5, H: 4, DY: -1, Most: 10}, api.Strike{}, false},
		{api.Ray{X: -2, Y: 12.5, H: 0.5, DY: -1, Most: 10}, api.Strike{Cell: at(-2, 11), T: 0.5}, true},
	} {
		v, is, e := level.Hit(f, s.r)
		if !sameStrike(v, s.want) || is != s.is || e != api.OK {
			t.Errorf("Hit of %v: %v, %v, error %d; want %v, %v", s.r, v, is, e, s.want, s.is)
		}
		wantRay(t, f, s.r)
	}
}

// P213: quotients that are infinite, times that are 0, and rays that hardly move.
func TestExtremeRays(t *testing.T) {
	r := region(-2, -2, 5, 4)
	n := &numbers{state: 33}
	f := n.field(r, func() float32 { return float32(n.between(-2, 2)) })
	ends := []float32{0, minusZero, tiny, -tiny, 1, -1, 0x1p-100, top, -top, 0.5}
	for _, x := range []float32{0, minusZero, 1, -2, 3, 0.5, tiny, -tiny, top, -top} {
		for _, dx := range ends {
			for _, dy := range ends {
				for _, dh := range ends {
					if dx == 0 && dy == 0 {
						continue
					}
					for _, most := range []float32{0, tiny, 2, 65536} {
						wantRay(t, f, api.Ray{X: x, Y: 0, H: 2.5, DX: dx, DY: dy, DH: dh, Most: most})
						wantRay(t, f, api.Ray{X: 0.25, Y: x, H: tiny, DX: dx, DY: dy, DH: dh, Most: most})
					}
				}
			}
		}
	}
}

// P213: a strike just where the ray leaves a cell comes ahead of a later one in the next cell, although this one stands in a row before.
func TestStrikeAtACorner(t *testing.T) {
	f := of(0, 0, 4, 2, 0, 0, 0.25, 0, 0, 0.5, 0, 0)
	r := api.Ray{X: 1.5, Y: 1.5, H: 1, DX: 1, DY: -1, DH: -1, Most: 9}
	for _, want := range []api.Strike{{Cell: at(1, 1), T: 0.5}, {Cell: at(2, 0), T: 0.75}} {
		if s, is, e := level.Hit(f, r); !sameStrike(s, want) || !is || e != api.OK {
			t.Errorf("Hit: %v, %v, error %d; want %v", s, is, e, want)
		}
		wantRay(t, f, r)
		f.V[5] = before(0.5)
	}
}

// P213: known numbers of cells: boxes that the ray does not come near are left out.
func TestKnownLooks(t *testing.T) {
	f := flat(region(0, 0, 8, 8), 0)
	f.V[3*8+6], f.V[3*8+1], f.V[7*8+7] = 9, 4, 20
	b, _ := level.Bounds(f)
	for _, s := range []struct {
		r    api.Ray
		want int
	}{
		// Over all but one column, against one, over all, and past the field.
		{api.Ray{X: -1, Y: 3.5, H: 5, DX: 1, Most: 99}, 1},
		{api.Ray{X: -1, Y: 3.5, H: 3, DX: 1, Most: 99}, 1},
		{api.Ray{X: 9, Y: 3.5, H: 3, DX: -1, Most: 99}, 2},
		{api.Ray{X: -1, Y: 3.5, H: 9.5, DX: 1, Most: 99}, 0},
		{api.Ray{X: -1, Y: 8.5, H: 1, DX: 1, Most: 99}, 0},
		{api.Ray{X: -1, Y: 3.5, H: 0, DX: 1, Most: 99}, 1},
		// The other way the cells of a box are looked at from the far end; what is behind the best strike so far is left out.
		{api.Ray{X: 9, Y: 3.5, H: 0, DX: -1, Most: 99}, 8},
		{api.Ray{X: 9, Y: 3.5, H: 0, DX: -1, Most: 4}, 4},
		{api.Ray{X: 9, Y: 3.5, H: 0, DX: -1, Most: before(4)}, 3},
		// Equal times are looked at.
		{api.Ray{X: 4, Y: 4, H: 0, DX: 1, DY: 1, Most: 0}, 4},
	} {
		_, _, n, e := level.HitBounds(f, b, s.r)
		if n != s.want || e != api.OK {
			t.Errorf("HitBounds of %v looks at %d cells, error %d; want %d", s.r, n, e, s.want)
		}
		wantRay(t, f, s.r)
	}
}
