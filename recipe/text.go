package recipe

import (
	"strconv"
	"strings"

	"tarnfell/api"
	"tarnfell/field"
)

const maxText = 1 << 16

// Print is described in doc/07-recipe.md, P142.
func Print(r api.Recipe) (string, api.Errno) {
	if e := Check(r); e != api.OK {
		return "", e
	}
	decimal := func(v float32) string {
		text, _ := field.Number(v)
		return text
	}
	var text strings.Builder
	for _, s := range r.Steps {
		text.WriteString(s.Name + " = " + line(s.Op, s.In, s.Ints, s.Reals, decimal))
	}
	text.WriteString(outWord + " " + r.Out + "\n")
	return text.String(), api.OK
}

// line gives that of a step, behind its name; real tells how the Reals are written.
func line(op string, in []string, ints []int, reals []float32, real func(v float32) string) string {
	words := append([]string{op}, in...)
	for _, n := range ints {
		words = append(words, strconv.Itoa(n))
	}
	for _, v := range reals {
		words = append(words, real(v))
	}
	return strings.Join(words, " ") + "\n"
}

// Parse is described in doc/07-recipe.md, P142. Names may be any words here, because Check tells what is wrong with them.
func Parse(text string) (api.Recipe, int, api.Errno) {
	if len(text) > maxText {
		return api.Recipe{}, 0, api.ErrLarge
	}
	all := kinds()
	var r api.Recipe
	number, ended := 0, false
	for line := range strings.Lines(text) {
		words := wordsOf(line)
		switch {
		case len(words) == 0:
		case ended:
			return api.Recipe{}, number, api.ErrSyntax
		case len(words) == 2 && words[0] == outWord:
			r.Out, ended = words[1], true
		default:
			s, right := parseStep(all, words)
			if !right {
				return api.Recipe{}, number, api.ErrSyntax
			}
			r.Steps = append(r.Steps, s)
		}
		number++
	}
	if !ended {
		return api.Recipe{}, number, api.ErrSyntax
	}
	if e := Check(r); e != api.OK {
		return api.Recipe{}, 0, e
	}
	return r, 0, api.OK
}

func wordsOf(line string) []string {
	line, _, _ = strings.Cut(strings.TrimSuffix(line, "\n"), "#")
	return strings.FieldsFunc(line, func(c rune) bool { return c == ' ' || c == '\t' })
}

func parseStep(all map[string]kind, words []string) (api.Step, bool) {
	if len(words) < 3 || words[1] != "=" {
		return api.Step{}, false
	}
	s := api.Step{Name: words[0], Op: words[2]}
	k, known := all[s.Op]
	words = words[3:]
	if !known || len(words) < k.in+k.ints {
		return api.Step{}, false
	}
	s.In = append(s.In, words[:k.in]...)
	for _, word := range words[k.in : k.in+k.ints] {
		n, right := parseInt(word)
		if !right {
			return api.Step{}, false
		}
		s.Ints = append(s.Ints, n)
	}
	words = words[k.in+k.ints:]
	// A kernel with a wrong side is read without weights, so that Check can tell what is wrong with it.
	if many, _ := k.manyReals(s.Ints); len(words) != many {
		return api.Step{}, false
	}
	for _, word := range words {
		v, e := field.ParseNumber(word)
		if e != api.OK {
			return api.Step{}, false
		}
		s.Reals = append(s.Reals, v)
	}
	return s, true
}

// parseInt also reads -0, which field.Integer does not.
func parseInt(word string) (int, bool) {
	if word == "-0" {
		return 0, true
	}
	return field.Integer(word)
}
