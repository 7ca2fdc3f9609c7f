package plant

import (
	"math"
	"strconv"
	"strings"

	"tarnfell/api"
	"tarnfell/field"
)

// maxInteger is the greatest one of 9 digits.
const maxInteger = 999999999

// Print is described in doc/06-plant.md, P133.
func Print(l []api.Kind, p []api.Plant) (string, api.Errno) {
	if e := CheckPlants(l, p); e != api.OK {
		return "", e
	}
	var text strings.Builder
	for _, v := range p {
		size, _ := field.Number(v.Size)
		words := []string{l[v.Kind].Name, strconv.Itoa(v.X), strconv.Itoa(v.Y), size, strconv.Itoa(v.Age)}
		text.WriteString(strings.Join(words, " "))
		text.WriteByte('\n')
	}
	return text.String(), api.OK
}

// Parse is described in doc/06-plant.md, P133.
func Parse(l []api.Kind, text string) ([]api.Plant, int, api.Errno) {
	if e := CheckKinds(l); e != api.OK {
		return nil, 0, e
	}
	if len(text) > api.MaxText {
		return nil, 0, api.ErrLarge
	}
	var p []api.Plant
	for text != "" {
		line, rest, ended := strings.Cut(text, "\n")
		if !ended {
			return nil, len(p), api.ErrSyntax
		}
		v, e := parsePlant(l, line)
		if e != api.OK {
			return nil, len(p), e
		}
		p = append(p, v)
		text = rest
	}
	if e := CheckPlants(l, p); e != api.OK {
		return nil, 0, e
	}
	return p, 0, api.OK
}

// parsePlant gives ErrSyntax or ErrName; a size that is read as no height becomes one of which CheckPlants says ErrRange.
func parsePlant(l []api.Kind, line string) (api.Plant, api.Errno) {
	words := strings.SplitN(line, " ", 6)
	if len(words) != 5 || words[0] == "" {
		return api.Plant{}, api.ErrSyntax
	}
	x, isX := integer(words[1])
	y, isY := integer(words[2])
	size, e := field.ParseNumber(words[3])
	age, isAge := integer(words[4])
	if !isX || !isY || e == api.ErrSyntax || !isAge {
		return api.Plant{}, api.ErrSyntax
	}
	if e != api.OK {
		size = math.MaxFloat32
	}
	kind := named(l, words[0])
	if kind < 0 {
		return api.Plant{}, api.ErrName
	}
	return api.Plant{Kind: kind, X: x, Y: y, Size: size, Age: age}, api.OK
}

func integer(word string) (int, bool) {
	n, right := field.Integer(word)
	return n, right && field.Within(n, -maxInteger, maxInteger)
}
