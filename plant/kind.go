package plant

import (
	"slices"

	"tarnfell/api"
	"tarnfell/field"
)

const (
	maxName  = 20
	maxSpace = 32
	maxThrow = 32
)

// CheckKind is described in doc/06-plant.md, P120.
func CheckKind(k api.Kind) api.Errno {
	if !isName(k.Name) {
		return api.ErrName
	}
	if e := field.CheckHeights(k.Low, k.High, k.Soft, k.Steep, k.Dry, k.Damp, k.Top, k.Pace, k.Share, k.Bark); e != api.OK {
		return e
	}
	switch {
	case k.High < k.Low || k.Damp < k.Dry:
		return api.ErrOrder
	case min(k.Soft, k.Steep, k.Dry, k.Top, k.Pace, k.Share, k.Bark) < 0 || max(k.Share, k.Bark) > 1:
		return api.ErrRange
	case !field.Within(k.Space, 0, maxSpace) || !field.Within(k.Throw, 0, maxThrow):
		return api.ErrRange
	}
	return api.OK
}

func isName(name string) bool {
	for i := range len(name) {
		if name[i] < 'a' || name[i] > 'z' {
			return false
		}
	}
	return field.Within(len(name), 1, maxName)
}

// CheckKinds is described in doc/06-plant.md, P120.
func CheckKinds(l []api.Kind) api.Errno {
	switch {
	case len(l) == 0:
		return api.ErrEmpty
	case len(l) > api.MaxKinds:
		return api.ErrLarge
	}
	for i, k := range l {
		if e := CheckKind(k); e != api.OK {
			return e
		}
		if named(l[:i], k.Name) >= 0 {
			return api.ErrTwice
		}
	}
	return api.OK
}

// named gives the number of the kind with a name, or one below 0.
func named(l []api.Kind, name string) int {
	return slices.IndexFunc(l, func(k api.Kind) bool { return k.Name == name })
}

// Slack is described in doc/06-plant.md, P121.
func Slack(v, low, high, soft float32) (float32, api.Errno) {
	if e := field.CheckHeights(v, low, high, soft); e != api.OK {
		return 0, e
	}
	switch {
	case high < low:
		return 0, api.ErrOrder
	case soft < 0:
		return 0, api.ErrRange
	}
	return slack(v, low, high, soft), api.OK
}

func slack(v, low, high, soft float32) float32 {
	if low <= v && v <= high {
		return 1
	}
	d := max(low-v, v-high)
	if d >= soft {
		return 0
	}
	return 1 - d/soft
}

// Suit is described in doc/06-plant.md, P122.
func Suit(k api.Kind, g api.Ground) (float32, api.Errno) {
	if e := CheckKind(k); e != api.OK {
		return 0, e
	}
	if e := field.CheckHeights(g.Height, g.Slope, g.Wet); e != api.OK {
		return 0, e
	}
	if g.Slope < 0 || g.Wet < 0 {
		return 0, api.ErrRange
	}
	return suit(k, g), api.OK
}

// suit also takes a slope that is no height: it is greater than any Steep.
func suit(k api.Kind, g api.Ground) float32 {
	height := slack(g.Height, k.Low, k.High, k.Soft)
	wet := slack(g.Wet, k.Dry, k.Damp, k.Dry+1)
	return float32(height * hold(g.Slope, k.Steep) * wet)
}

// hold says how well plants hold on to a slope.
func hold(slope, steep float32) float32 {
	switch {
	case slope > steep:
		return 0
	case steep == 0:
		return 1
	}
	return 1 - float32(0.5*(slope/steep))
}
