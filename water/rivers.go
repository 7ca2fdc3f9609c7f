package water

import (
	"tarnfell/api"
	"tarnfell/field"
)

// Rivers is described in doc/04-water.md, P77.
func Rivers(r api.Region, dirs, amounts []int, least int) ([]api.River, api.Errno) {
	l, e := flowOf(r, dirs)
	if e != api.OK {
		return nil, e
	}
	if e := checkList(r, amounts, maxAmount); e != api.OK {
		return nil, e
	}
	if !field.Within(least, 1, maxAmount) {
		return nil, api.ErrRange
	}
	for i, n := range l.to {
		if n != none && amounts[n] < amounts[i] {
			return nil, api.ErrOrder
		}
	}
	s := streamsOf(l, amounts, least)
	rivers := make([]api.River, 0, len(s.firsts))
	for _, first := range s.firsts {
		cells := s.course(first)
		rivers = append(rivers, api.River{
			Points: places(r, cells),
			Amount: amounts[cells[max(0, len(cells)-2)]],
			Into:   s.into(cells),
		})
	}
	s.rank(rivers)
	return rivers, api.OK
}

// streams are cells with much water: springs has for each cell how many of them lead to it, firsts where rivers begin, in order, and numbers for each cell the number of the river that begins there, or none.
type streams struct {
	flow
	springs, firsts, numbers []int
}

func streamsOf(l flow, amounts []int, least int) streams {
	s := streams{flow: l, springs: make([]int, len(l.to)), numbers: make([]int, len(l.to))}
	for i, n := range l.to {
		if n != none && amounts[i] >= least {
			s.springs[n]++
		}
	}
	for i, amount := range amounts {
		s.numbers[i] = none
		if amount >= least && s.begins(i) {
			s.numbers[i] = len(s.firsts)
			s.firsts = append(s.firsts, i)
		}
	}
	return s
}

// begins reports whether a river begins at a stream. Where streams meet and go nowhere it would have no further cell.
func (s streams) begins(i int) bool {
	return s.springs[i] == 0 || s.springs[i] > 1 && s.to[i] != none
}

// course gives the cells of the river that begins at a cell. All of them are streams, because amounts never fall on the way.
func (s streams) course(first int) []int {
	cells := []int{first}
	for i := s.to[first]; i != none; i = s.to[i] {
		cells = append(cells, i)
		if s.springs[i] > 1 {
			break
		}
	}
	return cells
}

// into gives the number of the river that begins where another one ends; a single cell is no other river's.
func (s streams) into(cells []int) int {
	if len(cells) == 1 {
		return none
	}
	return s.numbers[cells[len(cells)-1]]
}

// rank sets the orders of rivers, each one behind those that end at its first cell.
func (s streams) rank(rivers []api.River) {
	greatest, many := make([]int, len(rivers)), make([]int, len(rivers))
	for _, i := range s.order {
		k := s.numbers[i]
		if k == none {
			continue
		}
		order := max(1, greatest[k])
		if many[k] > 1 {
			order++
		}
		rivers[k].Order = order
		into := rivers[k].Into
		switch {
		case into == none:
		case order > greatest[into]:
			greatest[into], many[into] = order, 1
		case order == greatest[into]:
			many[into]++
		}
	}
}

func places(r api.Region, cells []int) []api.Point {
	l := make([]api.Point, 0, len(cells))
	for _, i := range cells {
		l = append(l, Place(r, i))
	}
	return l
}
