package road_test

import (
	"math"
	"math/bits"
	"slices"
	"testing"

	"tarnfell/api"
	"tarnfell/road"
)

// P108, G6: Connect on fields and by rules of several forms.
func TestConnect(t *testing.T) {
	n := &numbers{state: 20}
	many := 0
	for _, f := range n.fields(2000) {
		for _, s := range n.rules(f.Region) {
			sites := n.sites(f.Region, n.between(0, 7))
			want := connected(len(sites), pairsOf(f, s, sites))
			l, e := road.Connect(f, s, sites)
			wantRoads(t, "Connect", l, e, want...)
			many += len(l)
		}
	}
	if many < 500 {
		t.Error("too few roads:", many)
	}
}

// pairs tells which sites roads join.
func pairs(l []api.Road) [][2]int {
	var p [][2]int
	for _, r := range l {
		p = append(p, [2]int{r.From, r.To})
	}
	return p
}

// P108: known nets: of pairs with equal prices the first ones are taken, and no road leads where others do.
func TestKnownNets(t *testing.T) {
	square := flat(region(0, 0, 3, 3), 1)
	for _, s := range []struct {
		f     api.Field
		s     api.RoadRules
		sites []api.Point
		want  [][2]int
	}{
		{square, plain(), nil, nil},
		{square, plain(), places(1, 1), nil},
		{square, plain(), places(0, 0, 2, 0, 2, 2, 0, 2), [][2]int{{0, 1}, {0, 3}, {1, 2}}},
		{square, plain(), places(0, 0, 2, 2, 2, 0, 0, 2), [][2]int{{0, 2}, {0, 3}, {1, 2}}},
		{square, plain(), places(0, 0, 1, 1, 2, 2), [][2]int{{0, 1}, {1, 2}}},
		{row(1, 1, 1, 1, 1, 1), plain(), places(0, 0, 5, 0, 3, 0, 1, 0), [][2]int{{0, 3}, {1, 2}, {2, 3}}},
		{row(1, 1, 9, 1, 1), plain(), places(4, 0, 0, 0, 3, 0, 1, 0), [][2]int{{0, 2}, {1, 3}}},
		{row(1, 2, 3), plain(), places(0, 0, 1, 0, 2, 0), nil},
	} {
		l, e := road.Connect(s.f, s.s, s.sites)
		wantError(t, "Connect", e, api.OK)
		wantList(t, "Connect", pairs(l), e, s.want...)
	}
	// The price from the first site counts, not that back to it.
	s := api.RoadRules{Bridge: 1, Costly: []api.Field{row(100, 0, 0, 3)}}
	l, e := road.Connect(row(1, 1, 1, 1), s, places(0, 0, 1, 0, 3, 0))
	wantRoads(t, "Connect", l, e, api.Road{From: 0, To: 1, Way: places(0, 0, 1, 0), Price: 1}, api.Road{From: 1, To: 2, Way: places(1, 0, 2, 0, 3, 0), Price: 5})
	l, e = road.Connect(row(1, 1, 1, 1), s, places(3, 0, 1, 0, 0, 0))
	wantRoads(t, "Connect", l, e, api.Road{From: 0, To: 1, Way: places(3, 0, 2, 0, 1, 0), Price: 2}, api.Road{From: 1, To: 2, Way: places(1, 0, 0, 0), Price: 101})
}

// tree counts the groups of sites that roads leave, and adds the prices.
func tree(many int, l []api.Road) (groups int, sum float64) {
	mark := make([]int, many)
	for i := range mark {
		mark[i] = i
	}
	groups = many
	for _, r := range l {
		sum += float64(r.Price)
		a, b := mark[r.From], mark[r.To]
		if a != b {
			groups--
		}
		for i := range mark {
			if mark[i] == b {
				mark[i] = a
			}
		}
	}
	return groups, sum
}

// P111, P284: all sites are joined between which ways lead, by as few roads as possible, and no other roads that join as many have a lesser sum.
func TestNetsAreLeast(t *testing.T) {
	n := &numbers{state: 21}
	for _, f := range n.fields(3) {
		for _, s := range n.rules(f.Region) {
			s.Costly = nil
			sites := n.sites(f.Region, 5)
			all := pairsOf(f, s, sites)
			l, e := road.Connect(f, s, sites)
			wantError(t, "Connect", e, api.OK)
			groups, sum := tree(len(sites), l)
			if whole, _ := tree(len(sites), all); groups != whole || len(l) != len(sites)-groups {
				t.Error("sites are not joined as they could be", len(sites), groups, whole, len(l))
			}
			for set := range 1 << len(all) {
				if bits.OnesCount(uint(set)) != len(l) {
					continue
				}
				var some []api.Road
				for i, r := range all {
					if set>>i&1 == 1 {
						some = append(some, r)
					}
				}
				if g, least := tree(len(sites), some); g == groups && least < sum*0.99999 {
					t.Error("other roads are cheaper", least, sum)
				}
			}
		}
	}
}

// badSites are sites of the field row(1, 1) with what is said of them.
func badSites() []badWay {
	many := slices.Repeat(places(9, 9), api.MaxSites)
	return []badWay{
		{append(many, at(0, 0)), api.ErrLarge}, {many, api.ErrPlace},
		{places(2, 0), api.ErrPlace}, {places(0, 0, 0, -1), api.ErrPlace}, {places(0, 0, 1, 0, math.MinInt, math.MaxInt), api.ErrPlace},
		{places(0, 0, 0, 0), api.ErrTwice}, {places(0, 0, 1, 0, 0, 0), api.ErrTwice},
		{places(0, 0, 0, 0, 9, 9), api.ErrTwice}, {places(0, 0, 9, 9, 0, 0), api.ErrPlace}, {places(9, 9, 9, 9), api.ErrPlace},
	}
}

// P108: the errors of Connect, and their order.
func TestConnectErrors(t *testing.T) {
	for _, s := range badSites() {
		l, e := road.Connect(row(1, 1), plain(), s.way)
		wantNoList(t, "Connect", l, e, s.want)
	}
	// There may be as many sites as this.
	f := flat(region(0, 0, api.MaxSites, 1), 0)
	var sites []api.Point
	for i := range api.MaxSites {
		sites = append(sites, at(i, 0))
	}
	l, e := road.Connect(f, plain(), sites)
	if e != api.OK || len(l) != api.MaxSites-1 {
		t.Error("Connect", len(l), e)
	}
}

// bestTrip tries all ways over roads that come to no site twice.
func bestTrip(l []api.Road, from, to int, used []int, sum float32) (float32, bool) {
	if from == to {
		return sum, true
	}
	least, found := float32(0), false
	for _, r := range l {
		next := r.From + r.To - from
		if r.From != from && r.To != from || slices.Contains(used, next) {
			continue
		}
		if v, is := bestTrip(l, next, to, append(used, next), plus(sum, r.Price)); is && (!found || v < least) {
			least, found = v, true
		}
	}
	return least, found
}

// P109, G6: Trips over roads by chance.
func TestTrips(t *testing.T) {
	n := &numbers{state: 22}
	for _, price := range []func() float32{
		n.share,
		func() float32 { return float32(n.between(0, 3)) },
		func() float32 { return n.share() * math.MaxFloat32 },
		func() float32 { return math.Float32frombits(n.next() % 0x7f800000) },
	} {
		for range 60 {
			many := n.between(2, 6)
			var l []api.Road
			for range n.between(0, 10) {
				from := n.between(0, many-1)
				l = append(l, api.Road{From: from, To: (from + n.between(1, many-1)) % many, Price: price()})
			}
			for from := range many {
				want, wanted := make([]float32, many), make([]bool, many)
				for to := range many {
					want[to], wanted[to] = bestTrip(l, from, to, []int{from}, 0)
				}
				trips, is, e := road.Trips(many, l, from)
				wantLeast(t, "Trips", trips, is, e, want, wanted)
			}
		}
	}
}

// P109: known trips: roads lead both ways, several may join the same sites, sums may be no heights, and no Way is looked at.
func TestKnownTrips(t *testing.T) {
	far := places(1<<40, 0, 3, 3)
	l := []api.Road{{From: 2, To: 0, Price: 5, Way: far}, {From: 0, To: 1, Price: 2}, {From: 0, To: 1, Price: 1.5, Way: []api.Point{}}, {From: 1, To: 2, Price: 2.5, Way: far}, {From: 4, To: 5, Price: top}}
	trips, is, e := road.Trips(6, l, 0)
	wantLeast(t, "Trips", trips, is, e, []float32{0, 1.5, 4, 0, 0, 0}, []bool{true, true, true, false, false, false})
	trips, is, e = road.Trips(6, l, 2)
	wantLeast(t, "Trips", trips, is, e, []float32{4, 2.5, 0, 0, 0, 0}, []bool{true, true, true, false, false, false})
	trips, is, e = road.Trips(6, l, 5)
	wantLeast(t, "Trips", trips, is, e, []float32{0, 0, 0, 0, top, 0}, []bool{false, false, false, false, true, true})
	trips, is, e = road.Trips(1, nil, 0)
	wantLeast(t, "Trips", trips, is, e, []float32{0}, []bool{true})
	// A sum can be beyond all singles; it is a trip all the same.
	l = []api.Road{{From: 0, To: 1, Price: math.MaxFloat32}, {From: 1, To: 2, Price: math.MaxFloat32}, {From: 2, To: 3, Price: 1}}
	trips, is, e = road.Trips(4, l, 0)
	wantLeast(t, "Trips", trips, is, e, []float32{0, math.MaxFloat32, inf, inf}, []bool{true, true, true, true})
	// Sums are in order from the beginning: the way back is another one.
	l = []api.Road{{From: 0, To: 1, Price: 1 << 24}, {From: 1, To: 2, Price: 1}, {From: 2, To: 3, Price: 1}}
	trips, is, e = road.Trips(4, l, 0)
	wantLeast(t, "Trips", trips, is, e, []float32{0, 1 << 24, 1 << 24, 1 << 24}, []bool{true, true, true, true})
	trips, is, e = road.Trips(4, l, 3)
	wantLeast(t, "Trips", trips, is, e, []float32{1<<24 + 2, 2, 1, 0}, []bool{true, true, true, true})
	// A sum begins with the first price.
	l = []api.Road{{From: 0, To: 1, Price: minusZero}, {From: 1, To: 2, Price: minusZero}, {From: 2, To: 3, Price: 0}}
	trips, is, e = road.Trips(4, l, 0)
	wantLeast(t, "Trips", trips, is, e, []float32{0, minusZero, minusZero, 0}, []bool{true, true, true, true})
}

// badRoads are roads between three sites with what is said of them.
type badRoads struct {
	l    []api.Road
	want api.Errno
}

func allBadRoads() []badRoads {
	many := slices.Repeat([]api.Road{{From: 9}}, 1000)
	l := []badRoads{{append(many, api.Road{}), api.ErrLarge}, {many, api.ErrNone}}
	good := api.Road{From: 1, To: 2, Price: math.MaxFloat32}
	for _, r := range []badRoads{
		{[]api.Road{{From: 0, To: 0}}, api.ErrLoop}, {[]api.Road{{From: 2, To: 2, Price: nan}}, api.ErrLoop},
		{[]api.Road{{From: 3, To: 3, Price: nan}}, api.ErrNone}, {[]api.Road{{From: -1, To: -1}}, api.ErrNone},
		{[]api.Road{{To: 1, Price: nan}}, api.ErrForm}, {[]api.Road{{To: 1, Price: inf}}, api.ErrForm}, {[]api.Road{{To: 1, Price: -inf}}, api.ErrForm},
		{[]api.Road{{To: 1, Price: -tiny}}, api.ErrRange}, {[]api.Road{{To: 1, Price: -math.MaxFloat32}}, api.ErrRange},
		// The first bad road decides.
		{[]api.Road{{To: 1, Price: -1}, {To: 1, Price: nan}}, api.ErrRange}, {[]api.Road{{To: 1, Price: nan}, {From: 9}}, api.ErrForm}, {[]api.Road{{}, {From: 9}}, api.ErrLoop},
	} {
		l = append(l, r, badRoads{append([]api.Road{good}, r.l...), r.want}, badRoads{append(slices.Clone(r.l), good), r.want})
	}
	for _, n := range outside(0, 2) {
		l = append(l, badRoads{[]api.Road{{From: n, To: 1}}, api.ErrNone}, badRoads{[]api.Road{good, {From: 1, To: n, Price: nan}}, api.ErrNone})
	}
	return l
}

// P109: the errors of Trips, and their order.
func TestTripsErrors(t *testing.T) {
	for _, n := range append(outside(1, api.MaxSites), 0) {
		trips, is, e := road.Trips(n, make([]api.Road, 1001), 99)
		wantNoLeast(t, "Trips", trips, is, e, api.ErrRange)
	}
	for _, s := range allBadRoads() {
		for _, from := range []int{0, -1, 3} {
			trips, is, e := road.Trips(3, s.l, from)
			wantNoLeast(t, "Trips", trips, is, e, s.want)
		}
	}
	for _, n := range outside(0, 2) {
		trips, is, e := road.Trips(3, nil, n)
		wantNoLeast(t, "Trips", trips, is, e, api.ErrNone)
	}
	// There may be as many roads, and as many sites.
	l := slices.Repeat([]api.Road{{From: 23, To: 22, Price: 1}}, 1000)
	trips, is, e := road.Trips(api.MaxSites, l, 22)
	if e != api.OK || len(trips) != 24 || trips[23] != 1 || !is[23] || is[0] {
		t.Error("Trips", trips, is, e)
	}
}

// P109, P284: Shortcuts on fields and by rules of several forms: behind them no trip is dearer than the way times the factor.
func TestShortcuts(t *testing.T) {
	n := &numbers{state: 23}
	many := 0
	for _, f := range n.fields(2000) {
		for _, s := range n.rules(f.Region) {
			sites := n.sites(f.Region, n.between(1, 7))
			all := pairsOf(f, s, sites)
			l := connected(len(sites), all)
			if n.between(0, 3) == 0 {
				l = l[:len(l)/2]
			}
			factor := []float32{1, 1.25, 2, 1024}[n.between(0, 3)]
			added, e := road.Shortcuts(f, s, sites, l, factor)
			wantRoads(t, "Shortcuts", added, e, shortened(len(sites), all, l, factor)...)
			many += len(added)
			for _, r := range all {
				trips, is, e := road.Trips(len(sites), slices.Concat(l, added), r.From)
				if e != api.OK || !is[r.To] || trips[r.To] > times(factor, r.Price) {
					t.Error("a trip is too dear", trips, is, e, factor, r.Price)
				}
			}
		}
	}
	if many < 200 {
		t.Error("too few roads:", many)
	}
}

// P109: known shortcuts, in the order of the pairs; those that were added count for the others.
func TestKnownShortcuts(t *testing.T) {
	f, sites := flat(region(0, 0, 3, 3), 1), places(0, 0, 2, 0, 2, 2, 0, 2)
	for _, s := range []struct {
		l      []api.Road
		factor float32
		want   [][2]int
	}{
		{nil, 1, [][2]int{{0, 1}, {0, 3}, {1, 2}, {2, 3}, {0, 2}, {1, 3}}},
		{nil, 1.42, [][2]int{{0, 1}, {0, 3}, {1, 2}, {2, 3}}},
		{nil, 3, [][2]int{{0, 1}, {0, 3}, {1, 2}}},
		{nil, before(3), [][2]int{{0, 1}, {0, 3}, {1, 2}, {2, 3}}},
		{[]api.Road{{From: 0, To: 2, Price: 0}}, 1, [][2]int{{0, 1}, {0, 3}, {1, 3}}},
		{[]api.Road{{From: 2, To: 0, Price: 0}, {From: 3, To: 1, Price: 0}}, 1, [][2]int{{0, 1}}},
		{[]api.Road{{From: 0, To: 1, Price: math.MaxFloat32}}, 3, [][2]int{{0, 1}, {0, 3}, {1, 2}}},
		// Trips beyond all singles are dearer than any way.
		{[]api.Road{{From: 0, To: 1, Price: math.MaxFloat32}, {From: 1, To: 2, Price: math.MaxFloat32}}, 1024, [][2]int{{0, 1}, {0, 3}, {1, 2}}},
	} {
		l, e := road.Shortcuts(f, plain(), sites, s.l, s.factor)
		wantList(t, "Shortcuts", pairs(l), e, s.want...)
	}
	// No site, or a single one, needs no roads.
	for _, sites := range [][]api.Point{nil, places(1, 1)} {
		l, e := road.Shortcuts(f, plain(), sites, nil, 1)
		wantRoads(t, "Shortcuts", l, e)
	}
	// Roads that are added beyond the limit of Trips are counted, too.
	l, e := road.Shortcuts(f, plain(), sites, slices.Repeat([]api.Road{{From: 0, To: 1, Price: 5}}, 1000), 3)
	wantList(t, "Shortcuts", pairs(l), e, [][2]int{{0, 3}, {1, 2}, {2, 3}}...)
}

// P109: the errors of Shortcuts, and their order.
func TestShortcutsErrors(t *testing.T) {
	f, three := row(1, 1), flat(region(0, 0, 3, 1), 0)
	sites := places(0, 0, 1, 0, 2, 0)
	for _, s := range badSites() {
		l, e := road.Shortcuts(f, plain(), s.way, make([]api.Road, 1001), nan)
		wantNoList(t, "Shortcuts", l, e, s.want)
	}
	for _, s := range allBadRoads() {
		for _, factor := range []float32{1, nan, 0} {
			l, e := road.Shortcuts(three, plain(), sites, s.l, factor)
			wantNoList(t, "Shortcuts", l, e, s.want)
		}
	}
	l, e := road.Shortcuts(f, plain(), nil, []api.Road{{To: 1}}, 1)
	wantNoList(t, "Shortcuts", l, e, api.ErrNone)
	for _, s := range badSingles(1, 1024) {
		for _, sites := range [][]api.Point{nil, sites} {
			l, e := road.Shortcuts(three, plain(), sites, nil, s.v)
			wantNoList(t, "Shortcuts", l, e, s.want)
		}
	}
}
