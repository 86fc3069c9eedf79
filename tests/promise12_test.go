package tests

import (
	"testing"

	"loop.example/g01321/impl"
)

// Promise 12. Its first part, that chosen ways lead to their ends, is tested with promise 2.

// wordOf returns the word of a state, which has to have one.
func wordOf(t *testing.T, x impl.State) []int64 {
	t.Helper()
	word, code := impl.WordOfState(x)
	wantCode(t, "WordOfState", code, impl.ErrNone)
	return word
}

func TestPromise12DistancesOfStatesAreThoseOfTheirWords(t *testing.T) {
	for x, y := range threePegPairs() {
		a, b := wordOf(t, x), wordOf(t, y)
		distance, code := impl.DistanceByRule(x, y)
		wantCode(t, "DistanceByRule", code, impl.ErrNone)
		if ofWords, code := impl.WordDistance(3, a, b); ofWords != distance || code != impl.ErrNone {
			t.Fatalf("the distance of %v and %v is %d, of their words %v and %v it is %d", x, y, distance, a, b, ofWords)
		}
		ways, code := impl.WaysByRule(x, y)
		wantCode(t, "WaysByRule", code, impl.ErrNone)
		if ofWords, code := impl.CountWordWays(3, a, b); ofWords != ways || code != impl.ErrNone {
			t.Fatalf("from %v to %v there are %d ways, of their words %v and %v %d", x, y, ways, a, b, ofWords)
		}
	}
}

// TestPromise12NumbersOfStatesAreThoseOfTheirWords has ways with one move and with two moves of the
// greatest disc, which are the straight way and the detour.
func TestPromise12NumbersOfStatesAreThoseOfTheirWords(t *testing.T) {
	for x, y := range threePegPairs() {
		a, b := wordOf(t, x), wordOf(t, y)
		one, code := impl.OneMoveNumber(x, y)
		straight, wordCode := impl.StraightNumber(3, a, b)
		if straight != one || wordCode != code {
			t.Fatalf("of %v and %v the one-move number is %d, %d, the straight one of their words %d, %d", x, y, one, code, straight, wordCode)
		}
		if sameState(x, y) {
			continue
		}
		i := greatestDifference(a, b)
		two, code := impl.TwoMoveNumber(x, y)
		wantCode(t, "TwoMoveNumber", code, impl.ErrNone)
		if detour, code := impl.DetourNumber(3, a, b, 3-a[i]-b[i]); detour != two || code != impl.ErrNone {
			t.Fatalf("of %v and %v the two-move number is %d, the detour number of their words %d, %d", x, y, two, detour, code)
		}
	}
}

func TestPromise12DistancesToPegsAreThoseToExtremeWords(t *testing.T) {
	for x := range threePegStates() {
		word := wordOf(t, x)
		for peg := range int64(3) {
			distance, code := impl.DistanceToPeg(x, peg)
			wantCode(t, "DistanceToPeg", code, impl.ErrNone)
			if toExtreme, code := impl.DistanceToExtreme(3, word, peg); toExtreme != distance || code != impl.ErrNone {
				t.Fatalf("the distance of %v to %d is %d, that of its word %v is %d", x, peg, distance, word, toExtreme)
			}
		}
	}
}
