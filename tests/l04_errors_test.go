package tests

import (
	"slices"
	"testing"

	"loop.example/g01321/impl"
)

// wordCall calls a function of words and a letter, which leaves out what it does not take, and
// reports whether all results but the code are zero.
type wordCall func(k int64, a, b []int64, c int64) (bool, int64)

// oneWordCalls returns the functions of chapter 4 that take one word.
func oneWordCalls() map[string]wordCall {
	return map[string]wordCall{
		"WordNeighbours": func(k int64, a, _ []int64, _ int64) (bool, int64) {
			v, c := impl.WordNeighbours(k, a)
			return len(v) == 0, c
		},
		"RenameWord": func(k int64, a, _ []int64, _ int64) (bool, int64) {
			v, c := impl.RenameWord(k, a, lettersUpTo(k))
			return len(v) == 0, c
		},
		"DistanceToExtreme": distanceToExtremeCall,
	}
}

// twoWordCalls returns the functions of chapter 4 that take two words.
func twoWordCalls() map[string]wordCall {
	return map[string]wordCall{
		"WordDistance": func(k int64, a, b []int64, _ int64) (bool, int64) {
			v, c := impl.WordDistance(k, a, b)
			return v == 0, c
		},
		"StraightNumber": func(k int64, a, b []int64, _ int64) (bool, int64) {
			v, c := impl.StraightNumber(k, a, b)
			return v == 0, c
		},
		"CountWordWays": func(k int64, a, b []int64, _ int64) (bool, int64) {
			v, c := impl.CountWordWays(k, a, b)
			return v == 0, c
		},
		"DetourNumber": detourNumberCall,
	}
}

// letterCalls returns the functions of chapter 4 that take a letter.
func letterCalls() map[string]wordCall {
	return map[string]wordCall{
		"DistanceToExtreme": distanceToExtremeCall,
		"DetourNumber":      detourNumberCall,
	}
}

func distanceToExtremeCall(k int64, a, _ []int64, j int64) (bool, int64) {
	v, c := impl.DistanceToExtreme(k, a, j)
	return v == 0, c
}

func detourNumberCall(k int64, a, b []int64, c int64) (bool, int64) {
	v, code := impl.DetourNumber(k, a, b, c)
	return v == 0, code
}

// shapeOfWordsCalls returns the functions of chapter 4 that take numbers of letters and of numbers.
func shapeOfWordsCalls() map[string]shapeCall {
	return map[string]shapeCall{
		"CountWordEdges": func(k, n int64) (bool, int64) { v, c := impl.CountWordEdges(k, n); return v == 0, c },
		"SumToExtreme":   func(k, n int64) (bool, int64) { v, c := impl.SumToExtreme(k, n); return v == 0, c },
	}
}

// lettersUpTo returns the numbers 0..k - 1, of a k that is beyond all bounds only the first ones.
func lettersUpTo(k int64) []int64 {
	var list []int64
	for j := range min(k, 300) {
		list = append(list, j)
	}
	return list
}

// noLetters returns numbers that are none of k letters.
func noLetters(k int64) []int64 {
	return append(oddNumbers(), k, k+1, 1<<62)
}

// checkWords fails if a call does not return an error and zero values.
func checkWords(t *testing.T, name string, call wordCall, k int64, a, b []int64, c, want int64) {
	t.Helper()
	if zero, code := call(k, a, b, c); !zero || code != want {
		t.Errorf("%s of %d, %v, %v, %d: code %d, want %d, other results zero: %v", name, k, a, b, c, code, want, zero)
	}
}

// TestWordsOfNoWords has the lists and numbers of letters that make up structs that are no states.
func TestWordsOfNoWords(t *testing.T) {
	for why, x := range noStates() {
		k, list := x.Pegs, x.Discs
		for _, c := range []int64{-1, 0, 1, 2, k - 1, k} {
			for name, call := range oneWordCalls() {
				checkWords(t, name+" with "+why, call, k, list, nil, c, impl.ErrRange)
			}
			for name, call := range twoWordCalls() {
				for _, other := range [][]int64{nil, tower(0, int64(len(list))), tower(2, int64(len(list)))} {
					checkWords(t, name+" with "+why, call, k, list, other, c, impl.ErrRange)
					checkWords(t, name+" with "+why, call, k, other, list, c, impl.ErrRange)
				}
				checkWords(t, name+" with "+why+" twice", call, k, list, list, c, impl.ErrRange)
			}
		}
	}
}

// TestWordsOfUnlikeLengths has all pairs of different lengths, of words that begin in the same way,
// too.
func TestWordsOfUnlikeLengths(t *testing.T) {
	for k, n := range shapes() {
		for m := range greatestTowers()[k] + 1 {
			if m == n {
				continue
			}
			for name, call := range twoWordCalls() {
				for c := range k {
					checkWords(t, name, call, k, tower(0, n), tower(0, m), c, impl.ErrRange)
					checkWords(t, name, call, k, tower(2, n), tower(1, m), c, impl.ErrRange)
				}
			}
		}
	}
}

// TestWordsWithNoLetters has equal words and different ones: ErrRange comes before ErrState.
func TestWordsWithNoLetters(t *testing.T) {
	for k, n := range shapes() {
		for name, call := range letterCalls() {
			for _, c := range noLetters(k) {
				checkWords(t, name, call, k, tower(0, n), tower(1, n), c, impl.ErrRange)
				checkWords(t, name, call, k, tower(2, n), tower(2, n), c, impl.ErrRange)
			}
		}
	}
}

// TestDetoursByNumbersOfBothWords has letters that are one of both numbers at the greatest place with
// different ones, and the same letters where they are not.
func TestDetoursByNumbersOfBothWords(t *testing.T) {
	for k, n := range shapes() {
		for i := range n {
			a, b := tower(2, n), tower(2, n)
			a[i], b[i] = 0, 1
			for c := range k {
				want := int64(impl.ErrState)
				if c > 1 {
					want = impl.ErrNone
				}
				_, there := impl.DetourNumber(k, a, b, c)
				_, back := impl.DetourNumber(k, b, a, c)
				if there != want || back != want {
					t.Errorf("DetourNumber(%d, %v, %v, %d): code %d, and back %d, want %d", k, a, b, c, there, back, want)
				}
			}
		}
	}
}

func TestCountsOfNoWords(t *testing.T) {
	for name, call := range shapeOfWordsCalls() {
		for _, shape := range noShapes() {
			checkShape(t, name, call, shape[0], shape[1], impl.ErrRange)
		}
		for k, n := range shapes() {
			checkShape(t, name, call, k, n, impl.ErrNone)
		}
	}
}

func TestWordOfStateErrors(t *testing.T) {
	for why, x := range noStates() {
		if word, code := impl.WordOfState(x); len(word) != 0 || code != impl.ErrInvalid {
			t.Errorf("WordOfState of %s = %v, %d", why, word, code)
		}
	}
	for _, x := range otherPegs() {
		if word, code := impl.WordOfState(x); len(word) != 0 || code != impl.ErrRange {
			t.Errorf("WordOfState(%v) = %v, %d", x, word, code)
		}
	}
}

// TestStateOfWordErrors has lists that are no words, and words of more letters than 3.
func TestStateOfWordErrors(t *testing.T) {
	lists := [][]int64{{3}, {0, 3}, {4, 0, 1}, {3, 3, 3, 3, 3, 3}, tower(0, 9), tower(1, 64)}
	for _, x := range noStates() {
		if x.Pegs == 3 {
			lists = append(lists, x.Discs)
		}
	}
	for n := int64(1); n <= impl.MaxDiscs; n++ {
		for i := range n {
			for _, odd := range noLetters(3) {
				word := tower(1, n)
				word[i] = odd
				lists = append(lists, word)
			}
		}
	}
	for _, list := range lists {
		if x, code := impl.StateOfWord(list); !isZeroState(x) || code != impl.ErrRange {
			t.Errorf("StateOfWord(%v) = %v, %d", list, x, code)
		}
	}
}

// TestRenameWordErrors has images that are no permutation, also of words that do not have all
// letters.
func TestRenameWordErrors(t *testing.T) {
	for k, n := range shapes() {
		images := [][]int64{nil, {}, {0}, lettersUpTo(k - 1), lettersUpTo(k + 1), tower(0, k), tower(k-1, k), tower(1, 70)}
		for i := range k {
			for _, odd := range append(noLetters(k), (i+1)%k, (i+2)%k) {
				list := lettersUpTo(k)
				list[i] = odd
				images = append(images, list)
			}
		}
		for _, list := range images {
			for _, word := range [][]int64{tower(0, n), tower(k-1, n)} {
				if got, code := impl.RenameWord(k, word, list); len(got) != 0 || code != impl.ErrRange {
					t.Errorf("RenameWord(%d, %v, %v) = %v, %d", k, word, list, got, code)
				}
			}
		}
	}
	for _, k := range []int64{0, 1, 2, 6, 7, 259} {
		for _, word := range [][]int64{nil, {0}} {
			if got, code := impl.RenameWord(k, word, lettersUpTo(k)); len(got) != 0 || code != impl.ErrRange {
				t.Errorf("RenameWord(%d, %v, 0 to %d) = %v, %d", k, word, k-1, got, code)
			}
		}
	}
	if word, code := impl.RenameWord(4, slices.Repeat([]int64{3}, 6), []int64{3, 2, 1, 0}); code != impl.ErrNone {
		t.Errorf("RenameWord of six numbers = %v, %d", word, code)
	}
}
