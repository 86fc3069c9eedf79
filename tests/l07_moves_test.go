package tests

import (
	"slices"
	"testing"

	"loop.example/g01321/impl"
)

// TestMovesByRules has all rules with all states of at most five discs, and some states of more.
func TestMovesByRules(t *testing.T) {
	for x := range threePegStates() {
		if len(x.Discs) > 5 && rankBySum(x)%19 != 0 {
			continue
		}
		for _, r := range allRules() {
			want := movesOfRules(r, x)
			if moves, code := impl.MovesByRules(r, x); !slices.Equal(moves, want) || code != impl.ErrNone {
				t.Fatalf("MovesByRules(%v, %v) = %v, %d, want %v", r, x, moves, code, want)
			}
		}
	}
}

func TestMovesByRulesByHand(t *testing.T) {
	cases := []struct {
		r    impl.Rules
		x    impl.State
		want []impl.Move
	}{
		{namedRules()["all"], state(3), nil},
		{impl.Rules{}, state(3), nil},
		{impl.Rules{}, state(3, 0, 1, 2), nil},
		{namedRules()["all"], state(3, 0, 0), wayOfTexts("0:0>1", "0:0>2")},
		{namedRules()["cyclic"], state(3, 0, 0), wayOfTexts("0:0>1")},
		{namedRules()["cyclic"], state(3, 2, 0), wayOfTexts("0:2>0", "1:0>1")},
		{namedRules()["linear"], state(3, 2, 0), wayOfTexts("0:2>1", "1:0>1")},
		{namedRules()["linear"], state(3, 1, 0), wayOfTexts("0:1>0", "0:1>2")},
		{namedRules()["plus"], state(3, 1, 2), wayOfTexts("0:1>0", "0:1>2", "1:2>0")},
		{namedRules()["near"], state(3, 1, 0), wayOfTexts("0:1>0", "0:1>2")},
		{namedRules()["near"], state(3, 0, 1, 2), wayOfTexts("0:0>1", "1:1>2")},
		{impl.Rules{{0, 1, 0}}, state(3, 1, 0), nil},
		{impl.Rules{{0, 1, 0}}, state(3, 2, 0), wayOfTexts("1:0>1")},
	}
	for _, c := range cases {
		if moves, code := impl.MovesByRules(c.r, c.x); !slices.Equal(moves, c.want) || code != impl.ErrNone {
			t.Errorf("MovesByRules(%v, %v) = %v, %d, want %v", c.r, c.x, moves, code, c.want)
		}
	}
}

// TestSearchByRules has all pairs of states of at most four discs, and some pairs of more.
func TestSearchByRules(t *testing.T) {
	for r, found := range ruledSearches() {
		x := found.all.states[found.from]
		for to := range someRanks(len(found.distances)) {
			want, wantedCode := found.distances[to], int64(impl.ErrNone)
			if want < 0 {
				want, wantedCode = 0, impl.ErrNotFound
			}
			if number, code := impl.SearchByRules(r, x, found.all.states[to]); number != want || code != wantedCode {
				t.Fatalf("SearchByRules(%v, %v, %v) = %d, %d, want %d, %d", r, x, found.all.states[to], number, code, want, wantedCode)
			}
		}
	}
}

// TestSearchByRulesByHand has, among others, equal states, and states that can be reached, but from
// which no moves lead back.
func TestSearchByRulesByHand(t *testing.T) {
	oneWay := impl.Rules{{0, 1, 0}}
	cases := []struct {
		r            impl.Rules
		x, y         impl.State
		number, code int64
	}{
		{impl.Rules{}, state(3), state(3), 0, impl.ErrNone},
		{impl.Rules{}, state(3, 2), state(3, 2), 0, impl.ErrNone},
		{impl.Rules{}, state(3, 0, 1, 2), state(3, 0, 1, 2), 0, impl.ErrNone},
		{impl.Rules{}, state(3, 0), state(3, 1), 0, impl.ErrNotFound},
		{namedRules()["cyclic"], state(3, 2, 1, 0), state(3, 2, 1, 0), 0, impl.ErrNone},
		{oneWay, state(3, 0), state(3, 1), 1, impl.ErrNone},
		{oneWay, state(3, 1), state(3, 0), 0, impl.ErrNotFound},
		{oneWay, state(3, 0), state(3, 2), 0, impl.ErrNotFound},
		{oneWay, state(3, 2, 0), state(3, 2, 1), 1, impl.ErrNone},
		{oneWay, state(3, 0, 0), state(3, 1, 1), 0, impl.ErrNotFound},
		{impl.Rules{{0, 1, 0}, {0, 0, 1}}, state(3, 0), state(3, 2), 2, impl.ErrNone},
		{impl.Rules{{0, 1, 1}, {0, 0, 1}}, state(3, 0, 0), state(3, 2, 2), 3, impl.ErrNone},
		{impl.Rules{{0, 1, 1}, {0, 0, 1}}, state(3, 0, 0), state(3, 1, 1), 0, impl.ErrNotFound},
		{impl.Rules{{0, 1, 1}, {0, 0, 1}}, state(3, 2, 2), state(3, 0, 0), 0, impl.ErrNotFound},
		{impl.Rules{{0, 1, 1}, {0, 0, 1}}, state(3, 0, 0), state(3, 1, 2), 2, impl.ErrNone},
		{namedRules()["cyclic"], state(3, 1), state(3, 0), 2, impl.ErrNone},
		{namedRules()["cyclic"], state(3, 0, 0), state(3, 1, 1), 5, impl.ErrNone},
		{namedRules()["linear"], state(3, 0, 0), state(3, 2, 2), 8, impl.ErrNone},
		{namedRules()["linear"], state(3, tower(0, 8)...), state(3, tower(2, 8)...), 6560, impl.ErrNone},
		{namedRules()["all"], state(3, tower(0, 8)...), state(3, tower(2, 8)...), 255, impl.ErrNone},
		{impl.Rules{{0, 1, 0}}, state(3, tower(0, 8)...), state(3, tower(1, 8)...), 0, impl.ErrNotFound},
	}
	for _, c := range cases {
		if number, code := impl.SearchByRules(c.r, c.x, c.y); number != c.number || code != c.code {
			t.Errorf("SearchByRules(%v, %v, %v) = %d, %d, want %d, %d", c.r, c.x, c.y, number, code, c.number, c.code)
		}
	}
}

// TestCountReached has all states of at most four discs, and some states of more.
func TestCountReached(t *testing.T) {
	for r, found := range ruledSearches() {
		want := int64(0)
		for _, distance := range found.distances {
			if distance >= 0 {
				want++
			}
		}
		x := found.all.states[found.from]
		if count, code := impl.CountReached(r, x); count != want || code != impl.ErrNone {
			t.Fatalf("CountReached(%v, %v) = %d, %d, want %d", r, x, count, code, want)
		}
	}
}

func TestCountReachedByHand(t *testing.T) {
	cases := []struct {
		r    impl.Rules
		x    impl.State
		want int64
	}{
		{impl.Rules{}, state(3), 1},
		{namedRules()["all"], state(3), 1},
		{impl.Rules{}, state(3, 0, 1, 2), 1},
		{namedRules()["all"], state(3, 1), 3},
		{impl.Rules{{0, 1, 0}}, state(3, 0), 2},
		{impl.Rules{{0, 1, 0}}, state(3, 1), 1},
		{impl.Rules{{0, 1, 0}}, state(3, 0, 0), 2},
		{impl.Rules{{0, 1, 0}}, state(3, 2, 0), 2},
		{impl.Rules{{0, 1, 0}, {1, 0, 0}}, state(3, 0, 0), 2},
		{impl.Rules{{0, 1, 0}, {0, 0, 1}}, state(3, 0), 3},
		{impl.Rules{{0, 1, 0}, {0, 0, 1}}, state(3, 0, 0), 4},
		{namedRules()["cyclic"], state(3, 2, 1, 0), 27},
		{namedRules()["linear"], state(3, tower(0, 8)...), 6561},
	}
	for _, c := range cases {
		if count, code := impl.CountReached(c.r, c.x); count != c.want || code != impl.ErrNone {
			t.Errorf("CountReached(%v, %v) = %d, %d, want %d", c.r, c.x, count, code, c.want)
		}
	}
}
