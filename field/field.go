// Package field has fields of singles: their regions, what is made of them cell by cell and around each cell, their sums, and their texts. It is described in doc/01-field.md.
package field

import (
	"math"

	"tarnfell/api"
)

// Check is described in doc/01-field.md, P2.
func Check(f api.Field) api.Errno {
	if e := CheckRegion(f.Region); e != api.OK {
		return e
	}
	if len(f.V) != f.W*f.H {
		return api.ErrForm
	}
	return CheckHeights(f.V...)
}

// Fill is described in doc/01-field.md, P2.
func Fill(r api.Region, h float32) (api.Field, api.Errno) {
	if e := CheckRegion(r); e != api.OK {
		return api.Field{}, e
	}
	if e := CheckHeights(h); e != api.OK {
		return api.Field{}, e
	}
	return byCell(r, func(int) float32 { return h })
}

// At is described in doc/01-field.md, P2.
func At(f api.Field, x, y int) (float32, api.Errno) {
	if e := Check(f); e != api.OK {
		return 0, e
	}
	if !Has(f.Region, x, y) {
		return 0, api.ErrPlace
	}
	return f.V[Index(f.Region, x, y)], api.OK
}

// Cut is described in doc/01-field.md, P2.
func Cut(f api.Field, r api.Region) (api.Field, api.Errno) {
	if e := Check(f); e != api.OK {
		return api.Field{}, e
	}
	if e := CheckRegion(r); e != api.OK {
		return api.Field{}, e
	}
	if !Inside(r, f.Region) {
		return api.Field{}, api.ErrPlace
	}
	return byPlace(r, func(x, y int) float32 { return f.V[Index(f.Region, x, y)] })
}

// Paste is described in doc/01-field.md, P2.
func Paste(f, g api.Field) (api.Field, api.Errno) {
	if e := checkFields(f, g); e != api.OK {
		return api.Field{}, e
	}
	both, some := Common(f.Region, g.Region)
	if !some {
		return api.Field{}, api.ErrPlace
	}
	return byPlace(f.Region, func(x, y int) float32 {
		from := f
		if Inside(cell(x, y), both) {
			from = g
		}
		return from.V[Index(from.Region, x, y)]
	})
}

// Same is described in doc/01-field.md, P2.
func Same(a, b api.Field) bool {
	if a.Region != b.Region || len(a.V) != len(b.V) {
		return false
	}
	for i, v := range a.V {
		if math.Float32bits(v) != math.Float32bits(b.V[i]) {
			return false
		}
	}
	return true
}

func checkFields(fields ...api.Field) api.Errno {
	for _, f := range fields {
		if e := Check(f); e != api.OK {
			return e
		}
	}
	return api.OK
}

func checkRange(values []float32) api.Errno {
	for _, v := range values {
		if !isHeight(v) {
			return api.ErrRange
		}
	}
	return api.OK
}

func isFinite(v float32) bool { return -math.MaxFloat32 <= v && v <= math.MaxFloat32 }

func isHeight(v float32) bool { return -api.MaxHeight <= v && v <= api.MaxHeight }

func height(v float32) (float32, api.Errno) {
	if !isHeight(v) {
		return 0, api.ErrRange
	}
	return v, api.OK
}

// byCell makes a field of the values at all numbers of cells; as every field that is made, it has heights alone.
func byCell(r api.Region, value func(i int) float32) (api.Field, api.Errno) {
	values := make([]float32, r.W*r.H)
	for i := range values {
		values[i] = value(i)
	}
	if e := checkRange(values); e != api.OK {
		return api.Field{}, e
	}
	return api.Field{Region: r, V: values}, api.OK
}

func byPlace(r api.Region, value func(x, y int) float32) (api.Field, api.Errno) {
	return byCell(r, func(i int) float32 { return value(r.X+i%r.W, r.Y+i/r.W) })
}
