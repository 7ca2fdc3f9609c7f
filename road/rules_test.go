package road_test

import (
	"slices"
	"testing"

	"tarnfell/api"
	"tarnfell/road"
)

// P100: rules at their limits.
func TestCheckRules(t *testing.T) {
	for _, s := range []api.RoadRules{
		plain(),
		{Bridge: 1024},
		{Grade: 1024, Weight: 1024, Bridge: 1024, Dear: 1024, Span: api.MaxSpan},
		{Grade: minusZero, Weight: minusZero, Bridge: 1, Dear: minusZero, Span: 2},
		{Grade: tiny, Weight: tiny, Bridge: after(1), Dear: tiny, Span: 7, Costly: []api.Field{}},
		{Bridge: 1, Costly: []api.Field{row(0, 1024, minusZero, tiny)}},
		{Bridge: 1, Costly: []api.Field{flat(region(-api.MaxPlace, api.MaxPlace-128, 512, 128), 1024)}},
	} {
		wantError(t, "CheckRules", road.CheckRules(s), api.OK)
	}
	for n := 2; n <= api.MaxSpan; n++ {
		wantError(t, "CheckRules", road.CheckRules(api.RoadRules{Bridge: 1, Span: n}), api.OK)
	}
}

// P100: the errors of rules, and their order.
func TestCheckRulesErrors(t *testing.T) {
	for _, s := range allBadRules() {
		wantError(t, "CheckRules", road.CheckRules(s.s), s.want)
	}
}

// P100: all functions with rules return first the errors of their field, then those of the rules, then ErrPlace for another region of what is costly.
func TestRulesFirst(t *testing.T) {
	f := of(0, 0, 3, 1, 1, 2, 3)
	for _, r := range allRuled() {
		want := func(some bool, e, want api.Errno) {
			t.Helper()
			if some || e != want {
				t.Errorf("%s: error %d, want %d; it has a result: %v", r.name, e, want, some)
			}
		}
		for _, s := range badFields() {
			some, e := r.call(s.f, plain())
			want(some, e, s.want)
			some, e = r.call(s.f, api.RoadRules{Bridge: nan})
			want(some, e, s.want)
			some, e = r.call(s.f, api.RoadRules{Bridge: 1, Span: 1, Costly: []api.Field{row(1)}})
			want(some, e, s.want)
		}
		for _, s := range allBadRules() {
			some, e := r.call(f, s.s)
			want(some, e, s.want)
		}
		for _, c := range []api.Field{row(1, 2), of(1, 0, 3, 1, 1, 2, 3), of(0, 1, 3, 1, 1, 2, 3), of(0, 0, 1, 3, 1, 2, 3), of(0, 0, 3, 2, 1, 2, 3, 4, 5, 6)} {
			some, e := r.call(f, api.RoadRules{Bridge: 1, Costly: []api.Field{c}})
			want(some, e, api.ErrPlace)
		}
		if _, e := r.call(f, api.RoadRules{Bridge: 1, Costly: []api.Field{row(0, 1024, 5)}}); e != api.OK {
			t.Errorf("%s: error %d with what is costly", r.name, e)
		}
	}
}

// P100, P103, P108, P109: what is wrong with the other arguments comes behind the rules.
func TestRulesAheadOfLists(t *testing.T) {
	f, far := row(1, 2), places(9, 9)
	many := slices.Repeat(far, api.MaxCells+1)
	for _, s := range []badRules{{api.RoadRules{}, api.ErrRange}, {api.RoadRules{Bridge: 1, Costly: []api.Field{row(1)}}, api.ErrPlace}} {
		for _, way := range [][]api.Point{nil, many} {
			price, e := road.Price(f, s.s, way)
			wantNoSingle(t, "Price", price, e, s.want)
		}
		l, e := road.Connect(f, s.s, many)
		wantNoList(t, "Connect", l, e, s.want)
		l, e = road.Shortcuts(f, s.s, many, make([]api.Road, 1001), nan)
		wantNoList(t, "Shortcuts", l, e, s.want)
		near, e := road.Within(f, s.s, at(0, 0), nan)
		wantNoList(t, "Within", near, e, s.want)
	}
	bad := api.RoadRules{}
	_, _, e := road.StepCost(f, bad, at(9, 0), at(9, 0))
	wantError(t, "StepCost", e, api.ErrRange)
	_, _, e = road.Costs(f, bad, at(9, 0))
	wantError(t, "Costs", e, api.ErrRange)
	_, _, e = road.Way(f, bad, at(9, 0), at(9, 0))
	wantError(t, "Way", e, api.ErrRange)
}
