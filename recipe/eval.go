package recipe

import (
	"tarnfell/api"
	"tarnfell/field"
)

// Plain is described in doc/07-recipe.md, P143.
func Plain(r api.Recipe, at api.Region) (api.Field, api.Errno) {
	p, e := planOfRecipe(r)
	if e != api.OK {
		return api.Field{}, e
	}
	return p.result(at)
}

// Eval is described in doc/07-recipe.md, P146.
func Eval(g api.Graph, at api.Region) (api.Field, api.Errno) {
	p, e := planOfGraph(g)
	if e != api.OK {
		return api.Field{}, e
	}
	return p.result(at)
}

// All is described in doc/07-recipe.md, P146.
func All(g api.Graph, at api.Region) ([]api.Field, api.Errno) {
	p, e := planOfGraph(g)
	if e != api.OK {
		return nil, e
	}
	return p.fields(at)
}

// Cost is described in doc/07-recipe.md, P146.
func Cost(g api.Graph, at api.Region) (int, api.Errno) {
	p, e := planOfGraph(g)
	if e != api.OK {
		return 0, e
	}
	if e := p.checkRegion(at); e != api.OK {
		return 0, e
	}
	cells := 0
	for i := range p.hung() {
		r := p.regionOf(i, at)
		cells += r.W * r.H
	}
	return cells, api.OK
}

func (p plan) result(at api.Region) (api.Field, api.Errno) {
	fields, e := p.fields(at)
	if e != api.OK {
		return api.Field{}, e
	}
	return fields[p.out], api.OK
}

// fields gives those of all parts that Out hangs on.
func (p plan) fields(at api.Region) ([]api.Field, api.Errno) {
	if e := p.checkRegion(at); e != api.OK {
		return nil, e
	}
	fields := make([]api.Field, len(p.parts))
	for i, n := range p.hung() {
		r := p.regionOf(i, at)
		f, e := n.eval(cut(pick(fields, n.In), grown(r, n.margin)), r)
		if e != api.OK {
			return nil, e
		}
		fields[i] = f
	}
	return fields, api.OK
}

func (p plan) checkRegion(at api.Region) api.Errno {
	if e := field.CheckRegion(at); e != api.OK {
		return e
	}
	margin := p.margin()
	if margin > api.MaxMargin {
		return api.ErrRange
	}
	_, e := field.Grow(at, margin)
	return e
}

func (p plan) regionOf(i int, at api.Region) api.Region { return grown(at, p.needs[i]) }

// grown has no error: checkRegion asks for that of the largest region, in which all others lie.
func grown(r api.Region, n int) api.Region {
	wide, _ := field.Grow(r, n)
	return wide
}

// cut has no error: what a part needs of another one lies in the region of that one.
func cut(fields []api.Field, r api.Region) []api.Field {
	for i, f := range fields {
		fields[i], _ = field.Cut(f, r)
	}
	return fields
}
