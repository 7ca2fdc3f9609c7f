package water

import (
	"slices"

	"tarnfell/api"
	"tarnfell/field"
)

// Lakes is described in doc/04-water.md, P76.
func Lakes(f api.Field, least float32) ([]api.Lake, api.Errno) {
	if e := field.Check(f); e != api.OK {
		return nil, e
	}
	if e := field.CheckWithin(least, 0, api.MaxHeight); e != api.OK {
		return nil, e
	}
	w := surface(f)
	lakes := describe(f, w, lakeNumbers(f, w))
	return slices.DeleteFunc(lakes, func(l api.Lake) bool { return l.Depth < least }), api.OK
}

// lakeNumbers gives for each cell the number of its lake, or none, in the order of the lakes' first cells.
func lakeNumbers(f, w api.Field) []int {
	numbers := slices.Repeat([]int{none}, len(f.V))
	many := 0
	for i := range f.V {
		if numbers[i] == none && w.V[i] > f.V[i] {
			spread(f, w, numbers, i, many)
			many++
		}
	}
	return numbers
}

// spread gives a number to all cells of the lake of a cell.
func spread(f, w api.Field, numbers []int, first, number int) {
	numbers[first] = number
	queue := []int{first}
	for at := 0; at < len(queue); at++ {
		for _, n := range neighbours(f.Region, queue[at]) {
			if numbers[n] == none && w.V[n] > f.V[n] && w.V[n] == w.V[first] {
				numbers[n] = number
				queue = append(queue, n)
			}
		}
	}
}

// describe looks at all cells in order, so that each lake begins with its first cell, and its volume is added in order.
func describe(f, w api.Field, numbers []int) []api.Lake {
	var lakes []api.Lake
	for i, k := range numbers {
		if k == none {
			continue
		}
		p, deep := Place(f.Region, i), w.V[i]-f.V[i]
		if k == len(lakes) {
			lakes = append(lakes, api.Lake{Level: w.V[i], Depth: deep, Deepest: p, First: p})
		}
		l := &lakes[k]
		l.Cells++
		l.Volume += deep
		// The heights tell which place is deeper: depths can be equal by rounding.
		if f.V[i] < f.V[field.Index(f.Region, l.Deepest.X, l.Deepest.Y)] {
			l.Depth, l.Deepest = deep, p
		}
	}
	return lakes
}

// Shore is described in doc/04-water.md, P76.
func Shore(f api.Field, k int) ([]api.Point, api.Errno) {
	if e := field.Check(f); e != api.OK {
		return nil, e
	}
	numbers := lakeNumbers(f, surface(f))
	// A negative k is no lake's number, although none is one for the cells of no lake.
	if k < 0 || !slices.Contains(numbers, k) {
		return nil, api.ErrNone
	}
	var shore []api.Point
	for i, number := range numbers {
		if number != k && touches(f.Region, numbers, i, k) {
			shore = append(shore, Place(f.Region, i))
		}
	}
	return shore, api.OK
}

func touches(r api.Region, numbers []int, i, k int) bool {
	for _, n := range neighbours(r, i) {
		if numbers[n] == k {
			return true
		}
	}
	return false
}
