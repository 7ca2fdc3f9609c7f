package shape

import (
	"slices"

	"tarnfell/api"
	"tarnfell/field"
)

const (
	maxRate      = 0.125
	maxWearSteps = 64
)

// CheckWear is described in doc/03-shape.md, P51.
func CheckWear(w api.Wear) api.Errno {
	if e := field.CheckWithin(w.Talus, 0, api.MaxHeight); e != api.OK {
		return e
	}
	if e := field.CheckWithin(w.Rate, 0, maxRate); e != api.OK {
		return e
	}
	return checkSteps(w.Steps)
}

func checkSteps(steps int) api.Errno {
	if !field.Within(steps, 0, maxWearSteps) {
		return api.ErrRange
	}
	return api.OK
}

// Moved is described in doc/03-shape.md, P51.
func Moved(w api.Wear, from, to float32) (float32, api.Errno) {
	if e := CheckWear(w); e != api.OK {
		return 0, e
	}
	if e := field.CheckHeights(from, to); e != api.OK {
		return 0, e
	}
	return moved(w, from, to), api.OK
}

func moved(w api.Wear, from, to float32) float32 {
	d := from - to
	if d > w.Talus {
		return float32((d - w.Talus) * w.Rate)
	}
	return 0
}

// Thermal is described in doc/03-shape.md, P51.
func Thermal(f api.Field, w api.Wear) (api.Field, api.Errno) {
	if e := field.Check(f); e != api.OK {
		return api.Field{}, e
	}
	if e := CheckWear(w); e != api.OK {
		return api.Field{}, e
	}
	return worn(f, w.Steps, func(c cross) float32 { return c.crumble(w) })
}

// crumble takes away all that goes ahead of adding what comes.
func (c cross) crumble(w api.Wear) float32 {
	around := [4]float32{c.n, c.w, c.e, c.s}
	left := c.v
	for _, to := range around {
		left -= moved(w, c.v, to)
	}
	for _, from := range around {
		left += moved(w, from, c.v)
	}
	return left
}

// Smooth is described in doc/03-shape.md, P52.
func Smooth(f api.Field, steps int) (api.Field, api.Errno) {
	if e := field.Check(f); e != api.OK {
		return api.Field{}, e
	}
	if e := checkSteps(steps); e != api.OK {
		return api.Field{}, e
	}
	return worn(f, steps, cross.smooth)
}

func (c cross) smooth() float32 {
	return c.v + float32(((c.n+c.w)+(c.e+c.s))*0.125) - float32(c.v*0.5)
}

// worn makes so many steps. Only their end is asked for heights (G7).
func worn(f api.Field, steps int, next func(c cross) float32) (api.Field, api.Errno) {
	if _, some := shrink(f.Region, steps); !some {
		return api.Field{}, api.ErrEmpty
	}
	g := api.Field{Region: f.Region, V: slices.Clone(f.V)}
	for range steps {
		g = step(g, next)
	}
	if e := field.Check(g); e != api.OK {
		return api.Field{}, e
	}
	return g, api.OK
}

// step makes a new cell of each one that has all four neighbours, as they are ahead of the step.
func step(f api.Field, next func(c cross) float32) api.Field {
	r, _ := shrink(f.Region, 1)
	return api.Field{Region: r, V: each(r, func(x, y int) float32 { return next(crossAt(f, x, y)) })}
}
