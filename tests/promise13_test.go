package tests

import (
	"slices"
	"testing"

	"loop.example/g01321/impl"
)

// Promise 13.

// TestPromise13LegalMovesBecomeStepsOfWords also finds steps that no legal move becomes.
func TestPromise13LegalMovesBecomeStepsOfWords(t *testing.T) {
	for x := range threePegStates() {
		word := wordOf(t, x)
		states, code := impl.NeighboursOf(x)
		wantCode(t, "NeighboursOf", code, impl.ErrNone)
		var words [][]int64
		for _, y := range states {
			words = append(words, wordOf(t, y))
		}
		slices.SortFunc(words, slices.Compare)
		if steps, code := impl.WordNeighbours(3, word); !sameLists(steps, words) || code != impl.ErrNone {
			t.Fatalf("the word %v of %v has the neighbours %v, the states after its legal moves %v", word, x, steps, words)
		}
	}
}

func TestPromise13StepsOfWordsBecomeLegalMoves(t *testing.T) {
	for n := range int64(impl.MaxDiscs + 1) {
		for _, word := range wordsOf(3, n) {
			x, code := impl.StateOfWord(word)
			wantCode(t, "StateOfWord", code, impl.ErrNone)
			steps, code := impl.WordNeighbours(3, word)
			wantCode(t, "WordNeighbours", code, impl.ErrNone)
			for _, next := range steps {
				y, code := impl.StateOfWord(next)
				wantCode(t, "StateOfWord", code, impl.ErrNone)
				m, code := impl.MoveBetween(x, y)
				wantCode(t, "MoveBetween", code, impl.ErrNone)
				if yes, code := impl.IsLegal(x, m); !yes || code != impl.ErrNone {
					t.Fatalf("the step from %v to %v becomes no legal move of %v, but %v", word, next, x, m)
				}
			}
		}
	}
}

// TestPromise13WaysBecomeWaysOfWords follows chosen ways by words.
func TestPromise13WaysBecomeWaysOfWords(t *testing.T) {
	for x, y := range threePegPairs() {
		if len(x.Discs) > 3 {
			continue
		}
		way, code := impl.WayBetween(x, y)
		wantCode(t, "WayBetween", code, impl.ErrNone)
		states, code := impl.StatesOfRun(x, way)
		wantCode(t, "StatesOfRun", code, impl.ErrNone)
		for i := range way {
			from, to := wordOf(t, states[i]), wordOf(t, states[i+1])
			steps, code := impl.WordNeighbours(3, from)
			wantCode(t, "WordNeighbours", code, impl.ErrNone)
			if !slices.ContainsFunc(steps, func(step []int64) bool { return slices.Equal(step, to) }) {
				t.Fatalf("on the way from %v to %v, the words %v and %v are no neighbours", x, y, from, to)
			}
		}
	}
}

// stateAt returns the state of n discs at a time.
func stateAt(t *testing.T, time, n int64) impl.State {
	t.Helper()
	x, code := impl.StateAt(time, n)
	wantCode(t, "StateAt", code, impl.ErrNone)
	return x
}

// TestPromise13StatesAtTimesFollowByMoves begins with the tower on the peg 0.
func TestPromise13StatesAtTimesFollowByMoves(t *testing.T) {
	for n := range int64(impl.MaxDiscs + 1) {
		x := perfectOf(t, n, 0)
		if first := stateAt(t, 0, n); !sameState(first, x) {
			t.Errorf("the state of %d discs at 0 is %v", n, first)
		}
		for time := int64(1); time < 1<<n; time++ {
			m := moveAt(t, time)
			y, code := impl.AfterMove(x, m)
			if next := stateAt(t, time, n); !sameState(next, y) || code != impl.ErrNone {
				t.Fatalf("the state at %d is %v, after the move %v of %v it is %v, %d", time, next, m, x, y, code)
			}
			if found, code := impl.MoveBetween(x, y); found != m || code != impl.ErrNone {
				t.Errorf("the move at %d is %v, between %v and %v it is %v, %d", time, m, x, y, found, code)
			}
			x = y
		}
		if last := perfectOf(t, n, endOf(n)); !sameState(x, last) {
			t.Errorf("the last state of %d discs is %v", n, x)
		}
	}
}

func TestPromise13StatesAtTimesAreThoseOfTheRunOfTurns(t *testing.T) {
	for n := range int64(impl.MaxDiscs + 1) {
		states, code := impl.StatesOfRun(perfectOf(t, n, 0), movesByTurns(t, n))
		wantCode(t, "StatesOfRun", code, impl.ErrNone)
		if len(states) != 1<<n {
			t.Errorf("the turns of %d discs have %d states", n, len(states))
		}
		for time, x := range states {
			if y := stateAt(t, int64(time), n); !sameState(x, y) {
				t.Errorf("the state of %d discs at %d is %v, behind the turns it is %v", n, time, y, x)
			}
		}
	}
}

// TestPromise13TimesAreDistances has the distances from the tower on the peg 0, and to the one at the
// end.
func TestPromise13TimesAreDistances(t *testing.T) {
	for n := range int64(impl.MaxDiscs + 1) {
		for time := range int64(1) << n {
			x := stateAt(t, time, n)
			if distance, code := impl.DistanceToPeg(x, 0); distance != time || code != impl.ErrNone {
				t.Errorf("the state %v at %d has the distance %d, %d from the peg 0", x, time, distance, code)
			}
			left := int64(1)<<n - 1 - time
			if distance, code := impl.DistanceToPeg(x, endOf(n)); distance != left || code != impl.ErrNone {
				t.Errorf("the state %v at %d has the distance %d, %d from the peg %d", x, time, distance, code, endOf(n))
			}
		}
	}
}

// TestPromise13MovesAtTimesBecomeStepsOfWords puts both parts together.
func TestPromise13MovesAtTimesBecomeStepsOfWords(t *testing.T) {
	for n := range int64(impl.MaxDiscs + 1) {
		for time := int64(1); time < 1<<n; time++ {
			from, to := wordOf(t, stateAt(t, time-1, n)), wordOf(t, stateAt(t, time, n))
			if distance, code := impl.WordDistance(3, from, to); distance != 1 || code != impl.ErrNone {
				t.Errorf("before and at %d, the words %v and %v have the distance %d, %d", time, from, to, distance, code)
			}
		}
	}
}
