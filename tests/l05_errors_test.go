package tests

import (
	"slices"
	"testing"

	"loop.example/g01321/impl"
)

// ringCall calls a function of words and a ring, which leaves out what it does not take, and reports
// whether all results but the code are zero.
type ringCall func(a, b []int64, i int64) (bool, int64)

// oneRingsCalls returns the functions of chapter 5 that take one word.
func oneRingsCalls() map[string]ringCall {
	return map[string]ringCall{
		"RingsThatChange": func(a, _ []int64, _ int64) (bool, int64) {
			v, c := impl.RingsThatChange(a)
			return len(v) == 0, c
		},
		"ChangeRing": func(a, _ []int64, i int64) (bool, int64) {
			v, c := impl.ChangeRing(a, i)
			return len(v) == 0, c
		},
		"RankOfRings": func(a, _ []int64, _ int64) (bool, int64) {
			v, c := impl.RankOfRings(a)
			return v == 0, c
		},
		"OppositeRings": func(a, _ []int64, _ int64) (bool, int64) {
			v, c := impl.OppositeRings(a)
			return len(v) == 0, c
		},
		"RingsText": func(a, _ []int64, _ int64) (bool, int64) {
			v, c := impl.RingsText(a)
			return v == "", c
		},
	}
}

// twoRingsCalls returns the functions of chapter 5 that take two words.
func twoRingsCalls() map[string]ringCall {
	return map[string]ringCall{
		"DistanceOfRings": func(a, b []int64, _ int64) (bool, int64) {
			v, c := impl.DistanceOfRings(a, b)
			return v == 0, c
		},
		"WayOfRings": func(a, b []int64, _ int64) (bool, int64) {
			v, c := impl.WayOfRings(a, b)
			return len(v) == 0, c
		},
	}
}

// ringNumberCalls returns the functions of chapter 5 that take a number of rings or of discs, and,
// some of them, a rank or a step.
func ringNumberCalls() map[string]shapeCall {
	return map[string]shapeCall{
		"RingsOfRank": func(n, r int64) (bool, int64) { v, c := impl.RingsOfRank(n, r); return len(v) == 0, c },
		"RingOfStep":  func(n, t int64) (bool, int64) { v, c := impl.RingOfStep(n, t); return v == 0, c },
		"WholeNumber": func(n, _ int64) (bool, int64) { v, c := impl.WholeNumber(n); return v == 0, c },
		"DiscsOfWay":  func(n, _ int64) (bool, int64) { v, c := impl.DiscsOfWay(n); return len(v) == 0, c },
	}
}

// checkRings fails if a call does not return an error and zero values.
func checkRings(t *testing.T, name string, call ringCall, a, b []int64, i, want int64) {
	t.Helper()
	if zero, code := call(a, b, i); !zero || code != want {
		t.Errorf("%s of %v, %v, %d: code %d, want %d, other results zero: %v", name, a, b, i, code, want, zero)
	}
}

// TestRingsOfNoWords has rings that the lists have, and rings that they do not have: ErrInvalid comes
// before ErrRange.
func TestRingsOfNoWords(t *testing.T) {
	for why, list := range noRings() {
		for _, i := range append(oddNumbers(), 0, 1, int64(len(list))-1, int64(len(list))) {
			for name, call := range oneRingsCalls() {
				checkRings(t, name+" with "+why, call, list, nil, i, impl.ErrInvalid)
			}
		}
	}
}

// TestPairsOfNoWords has words of as many rings, and of more and less: ErrInvalid comes before
// ErrRange, at each of both places.
func TestPairsOfNoWords(t *testing.T) {
	for why, list := range noRings() {
		n := int64(len(list))
		for name, call := range twoRingsCalls() {
			for _, other := range [][]int64{nil, {0}, tower(0, min(n, 16)), tower(1, min(n, 16)), tower(1, 16)} {
				checkRings(t, name+" with "+why, call, list, other, 0, impl.ErrInvalid)
				checkRings(t, name+" with "+why, call, other, list, 0, impl.ErrInvalid)
			}
			for _, other := range noRings() {
				checkRings(t, name+" with "+why, call, list, other, 0, impl.ErrInvalid)
			}
		}
	}
}

// TestPairsOfUnlikeNumbersOfRings has all pairs of different numbers of rings, of words that begin in
// the same way, too.
func TestPairsOfUnlikeNumbersOfRings(t *testing.T) {
	for n := range int64(impl.MaxRings + 1) {
		for m := range int64(impl.MaxRings + 1) {
			if m == n {
				continue
			}
			for name, call := range twoRingsCalls() {
				for _, number := range []int64{0, 1} {
					checkRings(t, name, call, tower(0, n), tower(number, m), 0, impl.ErrRange)
					checkRings(t, name, call, tower(1, n), tower(number, m), 0, impl.ErrRange)
				}
			}
		}
	}
}

// TestChangeRingErrors has rings that a word does not have, the first one behind its last one also
// where it would come next: ErrRange comes before ErrState.
func TestChangeRingErrors(t *testing.T) {
	for n := range int64(impl.MaxRings + 1) {
		words := [][]int64{tower(0, n), tower(1, n)}
		if n > 0 {
			words = append(words, lastAloneOn(n))
		}
		for _, word := range words {
			for _, i := range append(oddNumbers(), n, n+1, 16, 17, 64, 256, 1<<62) {
				if next, code := impl.ChangeRing(word, i); len(next) != 0 || code != impl.ErrRange {
					t.Errorf("ChangeRing(%v, %d) = %v, %d", word, i, next, code)
				}
			}
		}
		for i := int64(1); i < n; i++ {
			if next, code := impl.ChangeRing(tower(0, n), i); len(next) != 0 || code != impl.ErrState {
				t.Errorf("ChangeRing of the ring %d, all %d off = %v, %d", i, n, next, code)
			}
			if next, code := impl.ChangeRing(lastAloneOn(n), i); len(next) != 0 || code != impl.ErrState {
				t.Errorf("ChangeRing of the ring %d, the last one of %d alone on = %v, %d", i, n, next, code)
			}
		}
	}
}

func TestNumbersOfNoRings(t *testing.T) {
	for name, call := range ringNumberCalls() {
		for _, n := range noRingNumbers() {
			for _, second := range append(oddNumbers(), 0, 1, 2, 3, 65535, 65536) {
				checkShape(t, name, call, n, second, impl.ErrRange)
			}
		}
	}
	for n := range int64(impl.MaxRings + 1) {
		if _, code := impl.WholeNumber(n); code != impl.ErrNone {
			t.Errorf("WholeNumber(%d): code %d", n, code)
		}
		discs, code := impl.DiscsOfWay(n)
		if n <= impl.MaxDiscs && (len(discs) != 1<<n-1 || code != impl.ErrNone) {
			t.Errorf("DiscsOfWay(%d): %d discs, code %d", n, len(discs), code)
		}
		if n > impl.MaxDiscs && (len(discs) != 0 || code != impl.ErrRange) {
			t.Errorf("DiscsOfWay(%d): %d discs, code %d", n, len(discs), code)
		}
	}
}

// TestRanksAndStepsOutOfRange has the first and the last rank and step of all numbers of rings, and
// the numbers beside them. Without rings there is a rank, but no step.
func TestRanksAndStepsOutOfRange(t *testing.T) {
	for n := range int64(impl.MaxRings + 1) {
		count := int64(1) << n
		for _, odd := range append(oddNumbers(), count, count+1, 2*count, 1<<62) {
			if word, code := impl.RingsOfRank(n, odd); len(word) != 0 || code != impl.ErrRange {
				t.Errorf("RingsOfRank(%d, %d) = %v, %d", n, odd, word, code)
			}
			if ring, code := impl.RingOfStep(n, odd); ring != 0 || code != impl.ErrRange {
				t.Errorf("RingOfStep(%d, %d) = %d, %d", n, odd, ring, code)
			}
		}
		if ring, code := impl.RingOfStep(n, 0); ring != 0 || code != impl.ErrRange {
			t.Errorf("RingOfStep(%d, 0) = %d, %d", n, ring, code)
		}
		for _, r := range []int64{0, count - 1} {
			if word, code := impl.RingsOfRank(n, r); int64(len(word)) != n || code != impl.ErrNone {
				t.Errorf("RingsOfRank(%d, %d) = %v, %d", n, r, word, code)
			}
		}
		for _, step := range []int64{1, count - 1} {
			if ring, code := impl.RingOfStep(n, step); n > 0 && (ring != 0 || code != impl.ErrNone) {
				t.Errorf("RingOfStep(%d, %d) = %d, %d", n, step, ring, code)
			}
		}
	}
}

// TestRingsWithoutErrors has words on which no function but ChangeRing fails.
func TestRingsWithoutErrors(t *testing.T) {
	for a, b := range ringPairs() {
		for _, calls := range []map[string]ringCall{oneRingsCalls(), twoRingsCalls()} {
			for name, call := range calls {
				_, code := call(a, b, 0)
				if name == "ChangeRing" && len(a) == 0 {
					wantCode(t, name, code, impl.ErrRange)
					continue
				}
				wantCode(t, name, code, impl.ErrNone)
			}
		}
		if slices.Equal(a, b) {
			wantNoWay(t, a, b)
		}
	}
}

// wantNoWay fails if two equal words have a distance or a way.
func wantNoWay(t *testing.T, a, b []int64) {
	t.Helper()
	distance, code := impl.DistanceOfRings(a, b)
	way, wayCode := impl.WayOfRings(a, b)
	if distance != 0 || code != impl.ErrNone || len(way) != 0 || wayCode != impl.ErrNone {
		t.Errorf("from %v to itself: the distance %d, %d, the way %v, %d", a, distance, code, way, wayCode)
	}
}
