package export

import (
	"tarnfell/api"
	"tarnfell/field"
	"tarnfell/level"
)

const (
	signs     = "#%*+=-:."
	noSign    = ' '
	signTime  = 8 // how long the rays of one sign are
	farthest  = 4096
	maxSigns  = 100
	leastLook = 0x1p-10 // of the length of a direction, and of Zoom
	maxZoom   = 1024
)

// view is a camera with the directions ahead and to the right, and how much ahead rises.
type view struct {
	api.Camera
	fx, fy, rx, ry, e float32
}

// viewOf gives the errors of cameras.
func viewOf(c api.Camera) (view, api.Errno) {
	if e := field.CheckHeights(c.X, c.Y, c.H, c.DX, c.DY, c.DH, c.Zoom); e != api.OK {
		return view{}, e
	}
	m := field.Root(float32(c.DX*c.DX) + float32(c.DY*c.DY))
	if m < leastLook || c.Zoom < leastLook || c.Zoom > maxZoom {
		return view{}, api.ErrRange
	}
	fx, fy := c.DX/m, c.DY/m
	return view{Camera: c, fx: fx, fy: fy, rx: -fy, ry: fx, e: c.DH / m}, api.OK
}

// Project is described in doc/10-export.md, P240.
func Project(e api.Camera, x, y, h float32) (api.Spot, float32, bool, api.Errno) {
	v, bad := viewOf(e)
	if bad != api.OK {
		return api.Spot{}, 0, false, bad
	}
	if bad := field.CheckHeights(x, y, h); bad != api.OK {
		return api.Spot{}, 0, false, bad
	}
	px, py, pz := x-v.X, y-v.Y, h-v.H
	ahead := float32(px*v.fx) + float32(py*v.fy)
	if ahead < 1 {
		return api.Spot{}, 0, false, api.OK
	}
	if bad := field.CheckHeights(ahead); bad != api.OK {
		return api.Spot{}, 0, false, bad
	}
	right := float32(px*v.rx) + float32(py*v.ry)
	up := pz - float32(v.e*ahead)
	return api.Spot{X: right / ahead * v.Zoom, Y: up / ahead * v.Zoom}, ahead, true, api.OK
}

// Draw is described in doc/10-export.md, P241.
func Draw(f api.Field, e api.Camera, wide, high int) (string, api.Errno) {
	if bad := field.Check(f); bad != api.OK {
		return "", bad
	}
	v, bad := viewOf(e)
	if bad != api.OK {
		return "", bad
	}
	if !field.Within(wide, 1, maxSigns) || !field.Within(high, 1, maxSigns) {
		return "", api.ErrRange
	}
	var rays []api.Ray
	for line := range high {
		for column := range wide {
			rays = append(rays, v.ray(v.off(column, wide), float32(v.off(line, high)*2)))
		}
	}
	strikes, struck, bad := level.Hits(f, rays)
	if bad != api.OK {
		return "", bad
	}
	var text []byte
	for i, s := range strikes {
		text = append(text, signOf(s, struck[i]))
		if (i+1)%wide == 0 {
			text = append(text, '\n')
		}
	}
	return string(text), api.OK
}

// off tells how far the sign number i of many is off the middle.
func (v view) off(i, many int) float32 {
	return ((float32(i) + 0.5) - float32(float32(many)*0.5)) / v.Zoom
}

// ray is that of a sign which is so far to the right of the middle, and so far below it.
func (v view) ray(right, below float32) api.Ray {
	return api.Ray{
		X: v.X, Y: v.Y, H: v.H,
		DX: v.fx + float32(v.rx*right), DY: v.fy + float32(v.ry*right), DH: v.e - below,
		Most: farthest,
	}
}

func signOf(s api.Strike, struck bool) byte {
	if !struck {
		return noSign
	}
	k, _ := clipped(s.T/signTime, len(signs)-1)
	return signs[k]
}
