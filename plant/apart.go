package plant

import (
	"cmp"
	"slices"

	"tarnfell/api"
	"tarnfell/noise"
)

// Apart is described in doc/06-plant.md, P125.
func Apart(l []api.Kind, p []api.Plant) ([]api.Plant, api.Errno) {
	if e := CheckPlants(l, p); e != api.OK {
		return nil, e
	}
	return thinned(l, p), api.OK
}

func thinned(l []api.Kind, p []api.Plant) []api.Plant {
	stays := make([]bool, len(p))
	for _, s := range byStanding(p) {
		stays[s.number] = !isHemmed(l, p, stays, s.number)
	}
	var left []api.Plant
	for i, v := range p {
		if stays[i] {
			left = append(left, v)
		}
	}
	return left
}

// standing tells by what the plant with the number comes ahead of others.
type standing struct {
	api.Plant
	rank   uint32
	number int
}

func byStanding(p []api.Plant) []standing {
	order := make([]standing, len(p))
	for i, v := range p {
		order[i] = standing{v, noise.Hash(seedOfStanding, v.X, v.Y, forStanding), i}
	}
	// Numbers rise by (Y, X).
	slices.SortFunc(order, func(a, b standing) int {
		return cmp.Or(cmp.Compare(b.Size, a.Size), cmp.Compare(b.Age, a.Age), cmp.Compare(a.rank, b.rank), cmp.Compare(a.number, b.number))
	})
	return order
}

// isHemmed reports whether the plant number i is too close to one that stays.
func isHemmed(l []api.Kind, p []api.Plant, stays []bool, i int) bool {
	for n, square := range near(p, placeOf(p[i]), maxSpace) {
		space := max(l[p[i].Kind].Space, l[p[n].Kind].Space)
		if stays[n] && square < space*space {
			return true
		}
	}
	return false
}

// Crowd is described in doc/06-plant.md, P126.
func Crowd(l []api.Kind, p []api.Plant, i int) (float32, api.Errno) {
	if e := CheckPlants(l, p); e != api.OK {
		return 0, e
	}
	if i < 0 || i >= len(p) {
		return 0, api.ErrPlace
	}
	return crowd(l, p, i), api.OK
}

func crowd(l []api.Kind, p []api.Plant, i int) float32 {
	var sum tally
	space := l[p[i].Kind].Space
	for n, square := range near(p, placeOf(p[i]), space+maxSpace) {
		if n == i {
			continue
		}
		if left, some := fade(p[n].Size, square, space+l[p[n].Kind].Space); some {
			sum.take(left, plus)
		}
	}
	return sum.value
}
