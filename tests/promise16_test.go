package tests

import (
	"slices"
	"testing"

	"loop.example/g01321/impl"
)

// Promise 16.

// searchByRules returns the least number of moves from one state to another one, to which moves have
// to lead.
func searchByRules(t *testing.T, r impl.Rules, x, y impl.State) int64 {
	t.Helper()
	number, code := impl.SearchByRules(r, x, y)
	wantCode(t, "SearchByRules", code, impl.ErrNone)
	return number
}

func TestPromise16NumbersByStepsAreThoseBySearch(t *testing.T) {
	for _, r := range strongRules() {
		for n := range int64(impl.MaxDiscs + 1) {
			rows := tableByRules(t, r, n)
			for i := range int64(3) {
				for j := range int64(3) {
					found := searchByRules(t, r, perfectOf(t, n, i), perfectOf(t, n, j))
					if rows[i][j] != found {
						t.Errorf("by %v, the number of %d discs from %d to %d is %d in the table, by search %d", r, n, i, j, rows[i][j], found)
					}
					if i == j {
						continue
					}
					if number, code := impl.NumberByRules(r, n, i, j); number != found || code != impl.ErrNone {
						t.Errorf("by %v, the number of %d discs from %d to %d is %d, %d, by search %d", r, n, i, j, number, code, found)
					}
				}
			}
		}
	}
}

// TestPromise16WithAllDirectionsSearchesAreDistances has all pairs of states of at most four discs,
// and some of more.
func TestPromise16WithAllDirectionsSearchesAreDistances(t *testing.T) {
	all := named(t, "all")
	for n := range int64(impl.MaxDiscs + 1) {
		count := len(towersOf(3, n).states)
		for i := range someRanks(count) {
			for j := range someRanks(count) {
				x, code := impl.StateOfRank(3, n, i)
				wantCode(t, "StateOfRank", code, impl.ErrNone)
				y, code := impl.StateOfRank(3, n, j)
				wantCode(t, "StateOfRank", code, impl.ErrNone)
				distance, code := impl.SearchDistance(x, y)
				wantCode(t, "SearchDistance", code, impl.ErrNone)
				if number := searchByRules(t, all, x, y); number != distance {
					t.Fatalf("from %v to %v the search takes %d moves, the distance is %d", x, y, number, distance)
				}
			}
		}
	}
}

// TestPromise16WithAllDirectionsMovesAreLegalMoves also has the numbers and the least moves, which are
// those of the least way, as there is just one.
func TestPromise16WithAllDirectionsMovesAreLegalMoves(t *testing.T) {
	all := named(t, "all")
	for x := range threePegStates() {
		want, code := impl.LegalMoves(x)
		wantCode(t, "LegalMoves", code, impl.ErrNone)
		if moves, code := impl.MovesByRules(all, x); !slices.Equal(moves, want) || code != impl.ErrNone {
			t.Fatalf("in %v the moves are %v, %d, the legal moves %v", x, moves, code, want)
		}
	}
	for n := range int64(impl.MaxDiscs + 1) {
		for _, pair := range pegPairs() {
			way, code := impl.LeastWay(perfectOf(t, n, pair[0]), perfectOf(t, n, pair[1]))
			wantCode(t, "LeastWay", code, impl.ErrNone)
			if moves, code := impl.LeastByRules(all, n, pair[0], pair[1]); !slices.Equal(moves, way) || code != impl.ErrNone {
				t.Errorf("the least moves of %d discs from peg to peg %v are %v, %d, the least way is %v", n, pair, moves, code, way)
			}
		}
	}
}

// TestPromise16FewerDirectionsAreNoShorterWays has all pairs of states of at most three discs.
func TestPromise16FewerDirectionsAreNoShorterWays(t *testing.T) {
	for n := range int64(4) {
		for _, x := range statesOf(3, n) {
			for _, y := range statesOf(3, n) {
				distance, code := impl.SearchDistance(x, y)
				wantCode(t, "SearchDistance", code, impl.ErrNone)
				for _, r := range allRules() {
					number, code := impl.SearchByRules(r, x, y)
					if code == impl.ErrNone && number < distance || code != impl.ErrNone && code != impl.ErrNotFound {
						t.Fatalf("by %v, from %v to %v it takes %d moves, %d, the distance is %d", r, x, y, number, code, distance)
					}
				}
			}
		}
	}
}

// TestPromise16TurnedRulesHaveTurnedSearches has all pairs of states of at most three discs.
func TestPromise16TurnedRulesHaveTurnedSearches(t *testing.T) {
	for _, r := range allRules() {
		turned := turnedRules(t, r)
		for n := range int64(4) {
			for _, x := range statesOf(3, n) {
				for _, y := range statesOf(3, n) {
					number, code := impl.SearchByRules(r, x, y)
					if back, backCode := impl.SearchByRules(turned, y, x); back != number || backCode != code {
						t.Fatalf("by %v, from %v to %v it takes %d moves, %d, back by the turned rules %d, %d", r, x, y, number, code, back, backCode)
					}
				}
			}
		}
	}
}
