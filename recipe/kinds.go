package recipe

import (
	"math"

	"tarnfell/api"
	"tarnfell/field"
)

// kind is what the steps of an Op have in common: how many In, Ints and Reals they have, which of the Ints is a seed, and what sets their work up with their numbers.
type kind struct {
	in, ints, reals, seed int
	setUp                 func(i []int, v []float32) (work, api.Errno)
}

const (
	noSeed  = -1
	squared = -1 // as many Reals as the square of the first one of Ints
)

// work is what a step does, with its numbers in place. The fields that eval gets are those of the region at, grown by the margin.
type work struct {
	margin int
	eval   func(in []api.Field, at api.Region) (api.Field, api.Errno)
	bounds func(in []span) span
}

// kinds has the table of P140. Who asks for several steps makes it only once.
func kinds() map[string]kind {
	return map[string]kind{
		"const":   {0, 0, 1, noSeed, constant},
		"noise":   {0, 4, 1, 1, noisy},
		"speckle": {0, 1, 1, 0, speckled},
		"add":     {2, 0, 0, noSeed, pair(api.OpAdd, sums)},
		"sub":     {2, 0, 0, noSeed, pair(api.OpSub, differences)},
		"mul":     {2, 0, 0, noSeed, pair(api.OpMul, products)},
		"div":     {2, 0, 0, noSeed, pair(api.OpDiv, quotients)},
		"less":    {2, 0, 0, noSeed, pair(api.OpLess, lesser)},
		"more":    {2, 0, 0, noSeed, pair(api.OpMore, greater)},
		"over":    {2, 0, 0, noSeed, pair(api.OpOver, shares)},
		"scale":   {1, 0, 2, noSeed, scaled},
		"clamp":   {1, 0, 2, noSeed, clamped},
		"blend":   {3, 0, 0, noSeed, blended},
		"select":  {1, 0, 3, noSeed, selected},
		"terrace": {1, 0, 2, noSeed, terraced},
		"dither":  {1, 1, 1, 0, dithered},
		"stamp":   {1, 4, 1, noSeed, stamped},
		"fault":   {1, 4, 1, noSeed, faulted},
		"fold":    {1, 3, 1, noSeed, folded},
		"shift":   {1, 2, 0, noSeed, shifted},
		"blur":    {1, 1, 0, noSeed, blurred},
		"kernel":  {1, 1, squared, noSeed, weighed},
		"slope":   {1, 0, 0, noSeed, sloped},
		"curve":   {1, 0, 0, noSeed, curved},
		"shade":   {1, 3, 0, noSeed, shaded},
		"thermal": {1, 1, 2, noSeed, crumbled},
		"smooth":  {1, 1, 0, noSeed, smoothed},
		"warp":    {1, 4, 2, 1, warped},
	}
}

// checkForm gives the errors of P141 for how many numbers there are.
func (k kind) checkForm(in int, ints []int, reals []float32) api.Errno {
	if in != k.in || len(ints) != k.ints {
		return api.ErrForm
	}
	many, e := k.manyReals(ints)
	if e != api.OK {
		return e
	}
	if len(reals) != many {
		return api.ErrForm
	}
	return api.OK
}

// manyReals tells how many Reals belong to Ints that are as many as they must be: none to a kernel with a wrong side, which is an error, too.
func (k kind) manyReals(ints []int) (int, api.Errno) {
	if k.reals != squared {
		return k.reals, api.OK
	}
	side := ints[0]
	if !field.Within(side, 1, api.MaxKernel) || side%2 == 0 {
		return 0, api.ErrRange
	}
	return side * side, api.OK
}

// workOf gives what a step with numbers of the right form does. Errors: those of P140.
func (k kind) workOf(ints []int, reals []float32) (work, api.Errno) {
	if e := field.CheckHeights(reals...); e != api.OK {
		return work{}, e
	}
	if k.seed != noSeed {
		if e := checkWithin(0, math.MaxUint32, ints[k.seed]); e != api.OK {
			return work{}, e
		}
	}
	w, e := k.setUp(ints, reals)
	if e != api.OK {
		return work{}, e
	}
	return w, api.OK
}

func checkWithin(least, most int, numbers ...int) api.Errno {
	for _, n := range numbers {
		if !field.Within(n, least, most) {
			return api.ErrRange
		}
	}
	return api.OK
}

// oneCell is the region for what hangs on no place.
func oneCell() api.Region { return api.Region{W: 1, H: 1} }

// tried gives the error that work has with a field of zeros: as these are right, it is that of its numbers.
func tried(w work) api.Errno {
	r, _ := field.Grow(oneCell(), w.margin)
	zeros, _ := field.Fill(r, 0)
	_, e := w.eval([]api.Field{zeros}, oneCell())
	return e
}
