package road

import (
	"cmp"
	"math"
	"slices"

	"tarnfell/api"
	"tarnfell/field"
)

const (
	maxRoads  = 1000
	maxFactor = 1024
)

// checkNet gives the errors of Connect.
func checkNet(f api.Field, s api.RoadRules, sites []api.Point) (ground, api.Errno) {
	g, e := groundOf(f, s)
	if e != api.OK {
		return ground{}, e
	}
	e = checkEach(sites, api.MaxSites, func(i int, p api.Point) api.Errno {
		if e := checkInside(f, p); e != api.OK {
			return e
		}
		if slices.Contains(sites[:i], p) {
			return api.ErrTwice
		}
		return api.OK
	})
	return g, e
}

// net has the sites between which roads lead, and what has been found from each of them.
type net struct {
	api.Field
	sites []api.Point
	found [][]label
}

func (g ground) netOf(sites []api.Point) net {
	n := net{Field: g.Field, sites: sites}
	for _, p := range sites {
		n.found = append(n.found, g.search(p))
	}
	return n
}

// pairs gives roads, as yet without their ways, for all pairs of sites with a way between them, the cheapest one first.
func (n net) pairs() []api.Road {
	var l []api.Road
	for i := range n.sites {
		for k := i + 1; k < len(n.sites); k++ {
			if end := n.found[i][number(n.Field, n.sites[k])]; end.found {
				l = append(l, api.Road{From: i, To: k, Price: end.price})
			}
		}
	}
	slices.SortStableFunc(l, func(a, b api.Road) int { return cmp.Compare(a.Price, b.Price) })
	return l
}

// built is a road with its way.
func (n net) built(r api.Road) api.Road {
	r.Way = wayTo(n.Field, n.found[r.From], n.sites[r.To])
	return r
}

// Connect is described in doc/05-road.md, P108.
func Connect(f api.Field, s api.RoadRules, sites []api.Point) ([]api.Road, api.Errno) {
	g, e := checkNet(f, s, sites)
	if e != api.OK {
		return nil, e
	}
	n := g.netOf(sites)
	groups := make([]int, len(sites))
	for i := range groups {
		groups[i] = i
	}
	var roads []api.Road
	for _, r := range n.pairs() {
		if groups[r.From] != groups[r.To] {
			join(groups, groups[r.From], groups[r.To])
			roads = append(roads, n.built(r))
		}
	}
	return roads, api.OK
}

func join(groups []int, a, b int) {
	for i, group := range groups {
		if group == b {
			groups[i] = a
		}
	}
}

// Trips is described in doc/05-road.md, P109.
func Trips(many int, l []api.Road, from int) ([]float32, []bool, api.Errno) {
	if !field.Within(many, 1, api.MaxSites) {
		return nil, nil, api.ErrRange
	}
	if e := checkRoads(many, l); e != api.OK {
		return nil, nil, e
	}
	if !isSite(many, from) {
		return nil, nil, api.ErrNone
	}
	least, found := prices(trips(many, l, from))
	return least, found, api.OK
}

func isSite(many, i int) bool { return field.Within(i, 0, many-1) }

func checkRoads(many int, l []api.Road) api.Errno {
	return checkEach(l, maxRoads, func(_ int, r api.Road) api.Errno {
		switch {
		case !isSite(many, r.From) || !isSite(many, r.To):
			return api.ErrNone
		case r.From == r.To:
			return api.ErrLoop
		}
		return field.CheckWithin(r.Price, 0, math.MaxFloat32)
	})
}

// trips labels the sites to which roads lead from a site.
func trips(many int, l []api.Road, from int) []label {
	return search(many, from, func(i int, visit func(k int, price float32)) {
		for _, r := range l {
			switch i {
			case r.From:
				visit(r.To, r.Price)
			case r.To:
				visit(r.From, r.Price)
			}
		}
	})
}

// Shortcuts is described in doc/05-road.md, P109.
func Shortcuts(f api.Field, s api.RoadRules, sites []api.Point, l []api.Road, factor float32) ([]api.Road, api.Errno) {
	g, e := checkNet(f, s, sites)
	if e != api.OK {
		return nil, e
	}
	if e := checkRoads(len(sites), l); e != api.OK {
		return nil, e
	}
	if e := field.CheckWithin(factor, 1, maxFactor); e != api.OK {
		return nil, e
	}
	n := g.netOf(sites)
	var added []api.Road
	for _, r := range n.pairs() {
		trip := trips(len(sites), slices.Concat(l, added), r.From)[r.To]
		if !trip.found || trip.price > float32(factor*r.Price) {
			added = append(added, n.built(r))
		}
	}
	return added, api.OK
}
