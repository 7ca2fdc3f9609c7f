package shape

import (
	"tarnfell/api"
	"tarnfell/field"
	"tarnfell/noise"
)

const (
	maxOffset = 1 << 40
	maxWidth  = 4096
	maxPeriod = 1 << 24
	maxBends  = 100
)

// CheckFault is described in doc/03-shape.md, P49.
func CheckFault(l api.Fault) api.Errno {
	if !field.Within(l.C, -maxOffset, maxOffset) || !field.Within(l.Width, 0, maxWidth) {
		return api.ErrRange
	}
	if e := checkDirection(l.A, l.B); e != api.OK {
		return e
	}
	return field.CheckHeights(l.Throw)
}

// Throw is described in doc/03-shape.md, P49.
func Throw(l api.Fault, x, y int) (float32, api.Errno) {
	if e := CheckFault(l); e != api.OK {
		return 0, e
	}
	if e := noise.CheckPlace(x, y); e != api.OK {
		return 0, e
	}
	return throw(l, x, y), api.OK
}

// throw is as great as Throw at most, and so a height: what ease gives is at most 1.
func throw(l api.Fault, x, y int) float32 {
	d := float32(l.A*x+l.B*y+l.C) / length(l.A, l.B)
	width := float32(l.Width)
	switch {
	case d >= width:
		return l.Throw
	case d <= -width:
		return 0
	}
	return float32(l.Throw * ease((d+width)/float32(l.Width*2)))
}

// Faults is described in doc/03-shape.md, P49.
func Faults(f api.Field, l []api.Fault) (api.Field, api.Errno) {
	return bent(f, l, CheckFault, throw)
}

// CheckFold is described in doc/03-shape.md, P50.
func CheckFold(o api.Fold) api.Errno {
	if !field.Within(o.Period, 2, maxPeriod) {
		return api.ErrRange
	}
	if e := checkDirection(o.A, o.B); e != api.OK {
		return e
	}
	return field.CheckHeights(o.Height)
}

// Lift is described in doc/03-shape.md, P50.
func Lift(o api.Fold, x, y int) (float32, api.Errno) {
	if e := CheckFold(o); e != api.OK {
		return 0, e
	}
	if e := noise.CheckPlace(x, y); e != api.OK {
		return 0, e
	}
	return lift(o, x, y), api.OK
}

// lift doubles the share behind the quotient: this is exact, so that the product can as well follow as precede it.
func lift(o api.Fold, x, y int) float32 {
	_, share := field.Divide(o.A*x+o.B*y, o.Period)
	t := float32(share * 2)
	if t > 1 {
		t = 2 - t
	}
	return float32(o.Height * ease(t))
}

// Folds is described in doc/03-shape.md, P50.
func Folds(f api.Field, l []api.Fold) (api.Field, api.Errno) {
	return bent(f, l, CheckFold, lift)
}

// bent adds to each cell what each of the list gives for its place, in order.
func bent[T any](f api.Field, l []T, check func(T) api.Errno, height func(b T, x, y int) float32) (api.Field, api.Errno) {
	if e := field.Check(f); e != api.OK {
		return api.Field{}, e
	}
	if len(l) > maxBends {
		return api.Field{}, api.ErrLarge
	}
	for _, b := range l {
		if e := check(b); e != api.OK {
			return api.Field{}, e
		}
	}
	return remade(f, func(v float32, x, y int) float32 {
		for _, b := range l {
			v += height(b, x, y)
		}
		return v
	})
}
