package field

import (
	"slices"

	"tarnfell/api"
)

// Combine is described in doc/01-field.md, P3.
func Combine(op int, a, b api.Field) (api.Field, api.Errno) {
	if e := checkFields(a, b); e != api.OK {
		return api.Field{}, e
	}
	apply, known := operation(op)
	switch {
	case !known:
		return api.Field{}, api.ErrKind
	case a.Region != b.Region:
		return api.Field{}, api.ErrPlace
	case op == api.OpDiv && slices.Contains(b.V, 0):
		return api.Field{}, api.ErrRange
	}
	return byCell(a.Region, func(i int) float32 { return apply(a.V[i], b.V[i]) })
}

func operation(op int) (func(a, b float32) float32, bool) {
	switch op {
	case api.OpAdd:
		return func(a, b float32) float32 { return a + b }, true
	case api.OpSub:
		return func(a, b float32) float32 { return a - b }, true
	case api.OpMul:
		return func(a, b float32) float32 { return a * b }, true
	case api.OpDiv:
		return func(a, b float32) float32 { return a / b }, true
	case api.OpLess:
		return Lesser, true
	case api.OpMore:
		return Greater, true
	case api.OpOver:
		return over, true
	}
	return nil, false
}

func over(a, b float32) float32 {
	if a > b {
		return 1
	}
	return 0
}

// Scale is described in doc/01-field.md, P4.
func Scale(f api.Field, m, c float32) (api.Field, api.Errno) {
	if e := Check(f); e != api.OK {
		return api.Field{}, e
	}
	if e := CheckHeights(m, c); e != api.OK {
		return api.Field{}, e
	}
	return byCell(f.Region, func(i int) float32 { return float32(f.V[i]*m) + c })
}

// Clamp is described in doc/01-field.md, P4.
func Clamp(f api.Field, low, high float32) (api.Field, api.Errno) {
	if e := Check(f); e != api.OK {
		return api.Field{}, e
	}
	if e := CheckHeights(low, high); e != api.OK {
		return api.Field{}, e
	}
	if low > high {
		return api.Field{}, api.ErrOrder
	}
	return byCell(f.Region, func(i int) float32 { return Lesser(Greater(f.V[i], low), high) })
}

// Blend is described in doc/01-field.md, P4.
func Blend(a, b, w api.Field) (api.Field, api.Errno) {
	if e := checkFields(a, b, w); e != api.OK {
		return api.Field{}, e
	}
	if a.Region != b.Region || a.Region != w.Region {
		return api.Field{}, api.ErrPlace
	}
	for _, share := range w.V {
		if share < 0 || share > 1 {
			return api.Field{}, api.ErrRange
		}
	}
	return byCell(a.Region, func(i int) float32 { return Mix(a.V[i], b.V[i], w.V[i]) })
}
