package water_test

import (
	"testing"

	"tarnfell/api"
	"tarnfell/water"
)

// What later chapters need of this one: directions, steps and places.
func TestDirections(t *testing.T) {
	r := region(-4, 7, 9, 9)
	for d := range water.Directions {
		if v := water.Length(d); !sameBits(v, long(d)) {
			t.Error("Length", d, v)
		}
		for steps := range 5 {
			want := 40
			for range steps {
				want = neighbour(r, want, d)
			}
			if p := water.Onward(at(0, 11), d, steps); p != placeOf(r, want) {
				t.Error("Onward", d, steps, p)
			}
		}
	}
	if p := water.Onward(at(api.MaxPlace, 0), 3, 2*api.MaxPlace); p != at(-api.MaxPlace, 2*api.MaxPlace) {
		t.Error("Onward", p)
	}
	for i := range 81 {
		if p := water.Place(r, i); p != placeOf(r, i) {
			t.Error("Place", i, p)
		}
	}
}

// What later chapters need of this one: how much a cell differs from those beside it, also where that is no height.
func TestRoughness(t *testing.T) {
	f := of(-4, 7, 3, 3,
		90, 2, -90,
		5, 1, 1.5,
		-80, -3, 70)
	for i, want := range []float32{88, 92, 92, 85, 4, 91.5, 85, 77, 73} {
		if v := water.Roughness(f, i); !sameBits(v, want) {
			t.Error("Roughness", i, v)
		}
	}
	for _, f := range []api.Field{row(minusZero), row(0, minusZero), row(minusZero, 0), row(minusZero, minusZero)} {
		if v := water.Roughness(f, len(f.V)-1); !sameBits(v, 0) {
			t.Error("Roughness", f, v)
		}
	}
	if v := water.Roughness(row(top, -top), 0); v != 2*top {
		t.Error("Roughness", v)
	}
}
