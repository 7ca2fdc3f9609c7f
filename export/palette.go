package export

import (
	"tarnfell/api"
	"tarnfell/field"
	"tarnfell/shape"
)

const maxTints = 64

// CheckPalette is described in doc/10-export.md, P237.
func CheckPalette(p []api.Tint) api.Errno {
	if len(p) == 0 {
		return api.ErrEmpty
	}
	if len(p) > maxTints {
		return api.ErrLarge
	}
	for i, t := range p {
		if e := field.CheckHeights(t.At); e != api.OK {
			return e
		}
		for _, part := range partsOf(t) {
			if !field.Within(part, 0, maxShade) {
				return api.ErrRange
			}
		}
		if i > 0 && t.At <= p[i-1].At {
			return api.ErrOrder
		}
	}
	return api.OK
}

// color is how much red, green and blue there is.
type color [3]int

func partsOf(t api.Tint) color { return color{t.Red, t.Green, t.Blue} }

// Color is described in doc/10-export.md, P237.
func Color(p []api.Tint, v float32) (int, api.Errno) {
	if e := CheckPalette(p); e != api.OK {
		return 0, e
	}
	if e := field.CheckHeights(v); e != api.OK {
		return 0, e
	}
	c := colorAt(p, v)
	return c[0]<<16 + c[1]<<8 + c[2], api.OK
}

func colorAt(p []api.Tint, v float32) color {
	above := 0
	for above < len(p) && p[above].At <= v {
		above++
	}
	switch above {
	case 0:
		return partsOf(p[0])
	case len(p):
		return partsOf(p[above-1])
	}
	return between(p[above-1], p[above], v)
}

// between gives the color of a value that is not below the first tint, and below the other one.
func between(a, b api.Tint, v float32) color {
	share := (v - a.At) / (b.At - a.At)
	c, to := partsOf(a), partsOf(b)
	for i, part := range c {
		c[i] = int(field.Floor(field.Mix(float32(part), float32(to[i]), share) + 0.5))
	}
	return c
}

// Picture is described in doc/10-export.md, P238.
func Picture(f api.Field, p []api.Tint, light [3]int) (string, api.Errno) {
	if e := field.Check(f); e != api.OK {
		return "", e
	}
	if e := CheckPalette(p); e != api.OK {
		return "", e
	}
	lit, e := lightOn(f, light)
	if e != api.OK {
		return "", e
	}
	return picture(colorKind, lit.Region, func(row []int, x, y int) []int {
		for _, part := range colorAt(p, valueAt(f, x, y)) {
			row = append(row, int(field.Floor(float32(float32(part)*valueAt(lit, x, y))+0.5)))
		}
		return row
	}), api.OK
}

// lightOn gives how much light falls on the cells of a picture.
func lightOn(f api.Field, light [3]int) (api.Field, api.Errno) {
	if light == [3]int{} {
		return field.Fill(f.Region, 1)
	}
	return shape.Shade(f, light[0], light[1], light[2])
}
