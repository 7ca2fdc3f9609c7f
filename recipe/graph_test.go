package recipe_test

import (
	"hash/fnv"
	"strconv"
	"strings"
	"testing"

	"tarnfell/api"
	"tarnfell/recipe"
)

// P148: a digest is that of FNV-1a with 64 bits, in 16 hexadecimal digits.
func TestDigest(t *testing.T) {
	for text, want := range map[string]string{
		"": "cbf29ce484222325", "a": "af63dc4c8601ec8c", "foobar": "85944171f73967e8", "\x00": "af63bd4c8601b7df", "\xff": "af64724c8602eb6e", "chongo was here!\n": "46810940eff5f915",
		"\xd5\x6b\xb9\x53\x42\x87\x08\x36": "0000000000000000",
	} {
		if got := recipe.Digest(text); got != want {
			t.Errorf("Digest of %q: %s, want %s", text, got, want)
		}
	}
	n := &numbers{state: 13}
	short := 0
	for range 3000 {
		b := make([]byte, n.between(0, 40))
		for i := range b {
			b[i] = byte(n.next())
		}
		h := fnv.New64a()
		h.Write(b)
		want := strconv.FormatUint(h.Sum64(), 16)
		if len(want) < 16 {
			short++
		}
		want = strings.Repeat("0", 16-len(want)) + want
		if got := recipe.Digest(string(b)); got != want {
			t.Fatalf("Digest of %q: %s, want %s", b, got, want)
		}
	}
	if short == 0 {
		t.Error("no digest begins with a 0")
	}
}

// P148: the text of a graph has numbers for In, and the bits of the Reals; also of nodes that Out does not hang on.
func TestText(t *testing.T) {
	want := []string{
		"noise 2 7 64 5 3f000000", "const 80000000", "speckle 4294967295 3e800000", "add 0 1", "sub 3 0", "mul 3 4", "div 5 1", "less 6 3", "more 3 6", "over 8 7", "scale 9 00000001 c9800000", "clamp 10 bf800000 49742400",
		"blend 3 4 9", "select 12 00000000 3dcccccd 3e99999a", "terrace 13 3a800000 00000000", "dither 14 0 3f800000", "stamp 15 3 -4194304 4194304 256 c0a00000", "fault 16 -1000 0 -1099511627776 4096 3e000000",
		"fold 17 0 -1 16777216 40200000", "shift 18 -64 64", "blur 19 16", "kernel 20 3 3f800000 40000000 3f800000 40000000 80000000 40000000 3f800000 40000000 3f800000", "slope 21", "curve 22", "shade 23 -1 0 1000",
		"thermal 24 64 3d4ccccd 3e000000", "smooth 25 0", "warp 26 4 0 1 10 3f800000 42800000",
	}
	var text string
	for i, line := range want {
		text += strconv.Itoa(i) + " = " + line + "\n"
	}
	text += "out 12\n"
	g := graphOf(allSteps())
	got, e := recipe.Text(g)
	if e != api.OK || got != text {
		t.Errorf("Text: %q, error %d; want %q", got, e, text)
	}
	k, e := recipe.Key(g)
	if e != api.OK || k != recipe.Digest(text) {
		t.Errorf("Key: %s, error %d; want %s", k, e, recipe.Digest(text))
	}
}

// P148: graphs with other texts, and so other keys, are those that are not the same, bit for bit.
func TestKeysOfGraphs(t *testing.T) {
	n := &numbers{state: 14}
	keys := map[string]api.Graph{}
	for range 3000 {
		g := n.graph(n.between(1, 4))
		k, e := recipe.Key(g)
		text, _ := recipe.Text(g)
		if e != api.OK || k != recipe.Digest(text) || len(k) != 16 {
			t.Fatalf("Key of %v: %s, error %d", g, k, e)
		}
		if other, there := keys[k]; there && !sameGraph(g, other) {
			t.Errorf("one key of %v and %v", g, other)
		}
		keys[k] = g
		if k2, _ := recipe.Key(g); k2 != k {
			t.Errorf("Key of %v: %s, then %s", g, k, k2)
		}
	}
	if len(keys) < 2000 {
		t.Error("too few keys:", len(keys))
	}
}
