package tile

import (
	"math"
	"slices"
	"strconv"
	"strings"

	"tarnfell/api"
	"tarnfell/field"
	"tarnfell/recipe"
)

const (
	undoWord  = "undo"
	redoWord  = "redo"
	editWords = 7 // of the line of an edit
)

// editKinds has the words for the kinds of edits, from 1 on.
func editKinds() []string { return []string{"raise", "level", "soften", "set"} }

// brushKinds has the words for the kinds of brushes, from 1 on.
func brushKinds() []string { return []string{"flat", "cone", "bell"} }

// PrintEdit is described in doc/08-tile.md, P181.
func PrintEdit(e api.Edit) (string, api.Errno) {
	if bad := CheckEdit(e); bad != api.OK {
		return "", bad
	}
	b := e.Brush
	words := []string{editKinds()[e.Kind-1], brushKinds()[b.Kind-1], joined(b.X, b.Y, b.Radius), bits(b.Height), bits(e.Target)}
	return strings.Join(words, " "), api.OK
}

func bits(v float32) string { return hexadecimal(math.Float32bits(v)) }

// hexadecimal writes 8 digits. The 1 ahead of them, which is cut off, keeps the zeros behind it.
func hexadecimal(n uint32) string { return strconv.FormatUint(1<<32|uint64(n), 16)[1:] }

// ParseEdit is described in doc/08-tile.md, P181.
func ParseEdit(text string) (api.Edit, api.Errno) {
	e, right := parseEdit(text)
	if !right {
		return api.Edit{}, api.ErrSyntax
	}
	if bad := CheckEdit(e); bad != api.OK {
		return api.Edit{}, bad
	}
	return e, api.OK
}

func parseEdit(text string) (api.Edit, bool) {
	words := strings.SplitN(text, " ", editWords+1)
	if len(words) != editWords {
		return api.Edit{}, false
	}
	kind := slices.Index(editKinds(), words[0]) + 1
	brush := slices.Index(brushKinds(), words[1]) + 1
	x, isX := field.Integer(words[2])
	y, isY := field.Integer(words[3])
	radius, isRadius := field.Integer(words[4])
	height, isHeight := parseBits(words[5])
	target, isTarget := parseBits(words[6])
	right := kind > 0 && brush > 0 && isX && isY && isRadius && isHeight && isTarget
	return api.Edit{Kind: kind, Brush: api.Brush{Kind: brush, X: x, Y: y, Radius: radius, Height: height}, Target: target}, right
}

func parseBits(word string) (float32, bool) {
	n, err := strconv.ParseUint(word, 16, 32)
	// ParseUint also takes other numbers of digits, and capitals, which are not written back.
	return math.Float32frombits(uint32(n)), err == nil && hexadecimal(uint32(n)) == word
}

// Journal is described in doc/08-tile.md, P182.
func (w *World) Journal() string { return string(w.journal) }

// note writes a line into the journal.
func (w *World) note(text string) {
	w.digest = w.digestOf(text)
	w.journal = append(w.journal, text+" "+w.digest+"\n"...)
}

// digestOf gives the digest of a line that would be the next one.
func (w *World) digestOf(text string) string { return recipe.Digest(w.digest + text) }

// Replay is described in doc/08-tile.md, P182.
func Replay(g api.Graph, r api.Region, side int, journal string) (*World, int, api.Errno) {
	w, e := New(g, r, side)
	if e != api.OK {
		return nil, 0, e
	}
	for many := 0; ; many++ {
		line, rest, isWhole := strings.Cut(journal, "\n")
		if !isWhole || !w.again(line) {
			return w, many, api.OK
		}
		journal = rest
	}
}

// again does what a line of a journal says, and reports whether it could be done.
func (w *World) again(line string) bool {
	end := strings.LastIndexByte(line, ' ')
	if end < 0 {
		return false
	}
	text, digest := line[:end], line[end+1:]
	if digest != w.digestOf(text) {
		return false
	}
	switch text {
	case undoWord:
		return w.Undo() == api.OK
	case redoWord:
		return w.Redo() == api.OK
	}
	e, bad := ParseEdit(text)
	return bad == api.OK && w.Edit(e) == api.OK
}
