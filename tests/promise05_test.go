package tests

import (
	"slices"
	"testing"

	"loop.example/g01321/impl"
)

// Promise 5, and the guarantee of chapter 5.

// ringRank returns the rank of a word of rings, which has to have one.
func ringRank(t *testing.T, word []int64) int64 {
	t.Helper()
	rank, code := impl.RankOfRings(word)
	wantCode(t, "RankOfRings", code, impl.ErrNone)
	return rank
}

func TestPromise5ChangesMakeRanks1GreaterOrLess(t *testing.T) {
	for word := range ringWords() {
		rings, code := impl.RingsThatChange(word)
		wantCode(t, "RingsThatChange", code, impl.ErrNone)
		rank := ringRank(t, word)
		var ranks []int64
		for _, i := range rings {
			next, code := impl.ChangeRing(word, i)
			if !impl.IsRings(next) || len(next) != len(word) || code != impl.ErrNone {
				t.Fatalf("ChangeRing(%v, %d) = %v, %d", word, i, next, code)
			}
			ranks = append(ranks, ringRank(t, next))
		}
		slices.Sort(ranks)
		var want []int64
		for _, r := range []int64{rank - 1, rank + 1} {
			if r >= 0 && r < 1<<len(word) {
				want = append(want, r)
			}
		}
		if !slices.Equal(ranks, want) {
			t.Fatalf("changes of %v with the rank %d make the ranks %v", word, rank, ranks)
		}
	}
}

func TestPromise5ChangesCanBeTakenBack(t *testing.T) {
	for word := range ringWords() {
		rings, code := impl.RingsThatChange(word)
		wantCode(t, "RingsThatChange", code, impl.ErrNone)
		for _, i := range rings {
			next, code := impl.ChangeRing(word, i)
			wantCode(t, "ChangeRing", code, impl.ErrNone)
			if back, code := impl.ChangeRing(next, i); !slices.Equal(back, word) || code != impl.ErrNone {
				t.Fatalf("the ring %d of %v changed twice: %v, %d", i, word, back, code)
			}
		}
	}
}

func TestPromise5WaysLeadFromWordToWord(t *testing.T) {
	for a, b := range ringPairs() {
		way, code := impl.WayOfRings(a, b)
		wantCode(t, "WayOfRings", code, impl.ErrNone)
		now := a
		for _, i := range way {
			if now, code = impl.ChangeRing(now, i); code != impl.ErrNone {
				t.Fatalf("the way from %v to %v changes a ring %d that can't be: code %d", a, b, i, code)
			}
		}
		if !slices.Equal(now, b) {
			t.Fatalf("the way from %v to %v leads to %v", a, b, now)
		}
		if distance, code := impl.DistanceOfRings(a, b); distance != int64(len(way)) || code != impl.ErrNone {
			t.Fatalf("the distance of %v and %v is %d, %d, the way has %d rings", a, b, distance, code, len(way))
		}
	}
}

func TestPromise5WaysGoBackwards(t *testing.T) {
	for a, b := range ringPairs() {
		way, code := impl.WayOfRings(a, b)
		back, backCode := impl.WayOfRings(b, a)
		slices.Reverse(back)
		if !slices.Equal(way, back) || code != impl.ErrNone || backCode != impl.ErrNone {
			t.Fatalf("the way from %v to %v has %d rings, and is not that back, which has %d", a, b, len(way), len(back))
		}
	}
}

func TestPromise5RanksLeadBackToWords(t *testing.T) {
	for word := range ringWords() {
		n := int64(len(word))
		if back, code := impl.RingsOfRank(n, ringRank(t, word)); !slices.Equal(back, word) || code != impl.ErrNone {
			t.Fatalf("the rank of %v leads to %v, %d", word, back, code)
		}
	}
	for n := range int64(impl.MaxRings + 1) {
		for r := range int64(1) << n {
			word, code := impl.RingsOfRank(n, r)
			wantCode(t, "RingsOfRank", code, impl.ErrNone)
			if back := ringRank(t, word); back != r {
				t.Fatalf("the word %v of the rank %d has the rank %d", word, r, back)
			}
		}
	}
}

// TestPromise5StepsChangeTheirRings goes from each word to the next one.
func TestPromise5StepsChangeTheirRings(t *testing.T) {
	for n := range int64(impl.MaxRings + 1) {
		now, code := impl.RingsOfRank(n, 0)
		wantCode(t, "RingsOfRank", code, impl.ErrNone)
		for step := int64(1); step < 1<<n; step++ {
			ring, code := impl.RingOfStep(n, step)
			wantCode(t, "RingOfStep", code, impl.ErrNone)
			now, code = impl.ChangeRing(now, ring)
			wantCode(t, "ChangeRing", code, impl.ErrNone)
			if next, code := impl.RingsOfRank(n, step); !slices.Equal(next, now) || code != impl.ErrNone {
				t.Fatalf("the step %d of %d rings leads to %v, want %v, %d", step, n, now, next, code)
			}
		}
	}
}

// TestPromise5OppositeRanksAddUp also takes opposites back.
func TestPromise5OppositeRanksAddUp(t *testing.T) {
	for word := range ringWords() {
		opposite, code := impl.OppositeRings(word)
		wantCode(t, "OppositeRings", code, impl.ErrNone)
		if sum := ringRank(t, word) + ringRank(t, opposite); sum != 1<<len(word)-1 {
			t.Fatalf("the ranks of %v and its opposite %v add up to %d", word, opposite, sum)
		}
		if back, code := impl.OppositeRings(opposite); !slices.Equal(back, word) || code != impl.ErrNone {
			t.Fatalf("the opposite of the opposite of %v is %v, %d", word, back, code)
		}
	}
}

func TestPromise5WholeNumbersAreRanksAndDistances(t *testing.T) {
	for n := range int64(impl.MaxRings + 1) {
		number, code := impl.WholeNumber(n)
		wantCode(t, "WholeNumber", code, impl.ErrNone)
		if rank := ringRank(t, tower(1, n)); rank != number {
			t.Errorf("the whole number of %d is %d, the rank %d", n, number, rank)
		}
		if distance, code := impl.DistanceOfRings(tower(1, n), tower(0, n)); distance != number || code != impl.ErrNone {
			t.Errorf("the whole number of %d is %d, the distance %d, %d", n, number, distance, code)
		}
	}
}

func TestPromise5WordsComeBackFromTheirTexts(t *testing.T) {
	seen := map[string]bool{}
	for word := range ringWords() {
		text, code := impl.RingsText(word)
		wantCode(t, "RingsText", code, impl.ErrNone)
		if seen[text] {
			t.Fatalf("two words have the text %q", text)
		}
		seen[text] = true
		if back, code := impl.ParseRings(text); !slices.Equal(back, word) || code != impl.ErrNone {
			t.Fatalf("the text %q of %v leads to %v, %d", text, word, back, code)
		}
	}
}
