package field

import "tarnfell/api"

const maxRatio = 64

// Bilinear is described in doc/01-field.md, P6.
func Bilinear(f api.Field, x, y float32) (float32, api.Errno) {
	if e := Check(f); e != api.OK {
		return 0, e
	}
	if !isFinite(x) || !isFinite(y) {
		return 0, api.ErrForm
	}
	if !isNear(x) || !isNear(y) {
		return 0, api.ErrPlace
	}
	i, j := Floor(x), Floor(y)
	v, there := between(f, int(i), int(j), x-i, y-j)
	if !there {
		return 0, api.ErrPlace
	}
	return height(v)
}

// isNear keeps what no int can hold from being converted to one.
func isNear(x float32) bool { return -api.MaxPlace <= x && x <= api.MaxPlace }

// between gives the value at the shares s and t behind the cell (i, j), and whether the cells that it needs are there.
func between(f api.Field, i, j int, s, t float32) (float32, bool) {
	need := cell(i, j)
	if s != 0 {
		need.W = 2
	}
	if t != 0 {
		need.H = 2
	}
	if !Inside(need, f.Region) {
		return 0, false
	}
	at := Index(f.Region, i, j)
	p := along(f.V[at:], s)
	if t == 0 {
		return p, true
	}
	q := along(f.V[at+f.W:], s)
	return Mix(p, q, t), true
}

func along(row []float32, s float32) float32 {
	if s == 0 {
		return row[0]
	}
	return Mix(row[0], row[1], s)
}

// Resample is described in doc/01-field.md, P7.
func Resample(f api.Field, r api.Region, num, den int) (api.Field, api.Errno) {
	if e := Check(f); e != api.OK {
		return api.Field{}, e
	}
	if e := CheckRegion(r); e != api.OK {
		return api.Field{}, e
	}
	if !Within(num, 1, maxRatio) || !Within(den, 1, maxRatio) {
		return api.Field{}, api.ErrRange
	}
	missing := false
	g, e := byPlace(r, func(x, y int) float32 {
		i, s := Divide(x*num, den)
		j, t := Divide(y*num, den)
		v, there := between(f, i, j, s, t)
		missing = missing || !there
		return v
	})
	if missing {
		return api.Field{}, api.ErrPlace
	}
	return g, e
}
