package noise

import (
	"cmp"

	"tarnfell/api"
	"tarnfell/field"
)

const maxScatterCell = 256

// CheckScatter is described in doc/02-noise.md, P31.
func CheckScatter(s api.Scatter) api.Errno {
	if !field.Within(s.Cell, 1, maxScatterCell) {
		return api.ErrRange
	}
	if e := field.CheckWithin(s.Share, 0, 1); e != api.OK {
		return e
	}
	if !field.Within(s.Apart, 0, 2*s.Cell) {
		return api.ErrRange
	}
	return api.OK
}

// Scatter is described in doc/02-noise.md, P31.
func Scatter(s api.Scatter, r api.Region) ([]api.Point, api.Errno) {
	if e := CheckScatter(s); e != api.OK {
		return nil, e
	}
	if e := field.CheckRegion(r); e != api.OK {
		return nil, e
	}
	var chosen []api.Point
	for y := r.Y; y < r.Y+r.H; y++ {
		for x := r.X; x < r.X+r.W; x++ {
			place := api.Point{X: x, Y: y}
			if isChosen(s, place) {
				chosen = append(chosen, place)
			}
		}
	}
	return chosen, api.OK
}

// isChosen looks two lattice cells far: as Apart is at most twice their side, no candidate further away is near enough.
func isChosen(s api.Scatter, place api.Point) bool {
	p := locate(place.X, place.Y, s.Cell)
	own := candidateOf(s, p.i, p.j)
	if own.at != place || !own.there {
		return false
	}
	for j := p.j - 2; j <= p.j+2; j++ {
		for i := p.i - 2; i <= p.i+2; i++ {
			other := candidateOf(s, i, j)
			if other.there && Square(own.at, other.at) <= s.Apart*s.Apart && other.comesBefore(own) {
				return false
			}
		}
	}
	return true
}

// candidate is that of the cell in column i and row j of the lattice.
type candidate struct {
	i, j  int
	at    api.Point
	there bool
	rank  uint32
}

func candidateOf(s api.Scatter, i, j int) candidate {
	return candidate{
		i: i, j: j,
		at:    centre(s.Seed, i, j, s.Cell),
		there: Unit(Hash(s.Seed, i, j, forShare)) < s.Share,
		rank:  Hash(s.Seed, i, j, forRank),
	}
}

// comesBefore says no of one candidate and itself.
func (c candidate) comesBefore(d candidate) bool {
	return cmp.Or(cmp.Compare(c.rank, d.rank), cmp.Compare(c.j, d.j), cmp.Compare(c.i, d.i)) < 0
}
