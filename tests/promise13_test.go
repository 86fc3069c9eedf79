package tests

import (
	"slices"
	"testing"

	"loop.example/g01321/impl"
)

// Promise 13, its first part.

// TestPromise13LegalMovesBecomeStepsOfWords also finds steps that no legal move becomes.
func TestPromise13LegalMovesBecomeStepsOfWords(t *testing.T) {
	for x := range threePegStates() {
		word := wordOf(t, x)
		states, code := impl.NeighboursOf(x)
		wantCode(t, "NeighboursOf", code, impl.ErrNone)
		var words [][]int64
		for _, y := range states {
			words = append(words, wordOf(t, y))
		}
		slices.SortFunc(words, slices.Compare)
		if steps, code := impl.WordNeighbours(3, word); !sameLists(steps, words) || code != impl.ErrNone {
			t.Fatalf("the word %v of %v has the neighbours %v, the states after its legal moves %v", word, x, steps, words)
		}
	}
}

func TestPromise13StepsOfWordsBecomeLegalMoves(t *testing.T) {
	for n := range int64(impl.MaxDiscs + 1) {
		for _, word := range wordsOf(3, n) {
			x, code := impl.StateOfWord(word)
			wantCode(t, "StateOfWord", code, impl.ErrNone)
			steps, code := impl.WordNeighbours(3, word)
			wantCode(t, "WordNeighbours", code, impl.ErrNone)
			for _, next := range steps {
				y, code := impl.StateOfWord(next)
				wantCode(t, "StateOfWord", code, impl.ErrNone)
				m, code := impl.MoveBetween(x, y)
				wantCode(t, "MoveBetween", code, impl.ErrNone)
				if yes, code := impl.IsLegal(x, m); !yes || code != impl.ErrNone {
					t.Fatalf("the step from %v to %v becomes no legal move of %v, but %v", word, next, x, m)
				}
			}
		}
	}
}

// TestPromise13WaysBecomeWaysOfWords follows chosen ways by words.
func TestPromise13WaysBecomeWaysOfWords(t *testing.T) {
	for x, y := range threePegPairs() {
		if len(x.Discs) > 3 {
			continue
		}
		way, code := impl.WayBetween(x, y)
		wantCode(t, "WayBetween", code, impl.ErrNone)
		states, code := impl.StatesOfRun(x, way)
		wantCode(t, "StatesOfRun", code, impl.ErrNone)
		for i := range way {
			from, to := wordOf(t, states[i]), wordOf(t, states[i+1])
			steps, code := impl.WordNeighbours(3, from)
			wantCode(t, "WordNeighbours", code, impl.ErrNone)
			if !slices.ContainsFunc(steps, func(step []int64) bool { return slices.Equal(step, to) }) {
				t.Fatalf("on the way from %v to %v, the words %v and %v are no neighbours", x, y, from, to)
			}
		}
	}
}
