package water_test

import (
	"testing"

	"tarnfell/api"
	"tarnfell/water"
)

// What later chapters need of this one: directions, steps and places.
func TestDirections(t *testing.T) {
	r := region(-4, 7, 9, 9)
	for d := range water.Directions {
		if v := water.Length(d); !sameBits(v, long(d)) {
			t.Error("Length", d, v)
		}
		for steps := range 5 {
			want := 40
			for range steps {
				want = neighbour(r, want, d)
			}
			if p := water.Onward(at(0, 11), d, steps); p != placeOf(r, want) {
				t.Error("Onward", d, steps, p)
			}
		}
	}
	if p := water.Onward(at(api.MaxPlace, 0), 3, 2*api.MaxPlace); p != at(-api.MaxPlace, 2*api.MaxPlace) {
		t.Error("Onward", p)
	}
	for i := range 81 {
		if p := water.Place(r, i); p != placeOf(r, i) {
			t.Error("Place", i, p)
		}
	}
}
