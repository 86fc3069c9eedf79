package tests

import (
	"slices"
	"testing"

	"loop.example/g01321/impl"
)

func TestIsSierpinskiWord(t *testing.T) {
	if impl.MaxLetters != 5 {
		t.Errorf("MaxLetters = %d", impl.MaxLetters)
	}
	for k, n := range shapes() {
		for _, word := range wordsOf(k, n) {
			if !impl.IsSierpinskiWord(k, word) {
				t.Fatalf("IsSierpinskiWord(%d, %v) = false", k, word)
			}
		}
	}
	for why, x := range noStates() {
		if impl.IsSierpinskiWord(x.Pegs, x.Discs) {
			t.Errorf("IsSierpinskiWord of %s = true", why)
		}
	}
	if !impl.IsSierpinskiWord(5, nil) || !impl.IsSierpinskiWord(5, []int64{}) {
		t.Errorf("IsSierpinskiWord of the empty word = false")
	}
}

// TestIsSierpinskiWordOfShortLists has all lists of at most three numbers in -1..6, and numbers of
// letters around those that there are.
func TestIsSierpinskiWordOfShortLists(t *testing.T) {
	for k := int64(-1); k <= 7; k++ {
		for n := range int64(4) {
			for _, list := range wordsOf(8, n) {
				want := k >= 3 && k <= 5
				for i := range list {
					list[i]--
					want = want && list[i] >= 0 && list[i] < k
				}
				if impl.IsSierpinskiWord(k, list) != want {
					t.Errorf("IsSierpinskiWord(%d, %v) = %v", k, list, !want)
				}
			}
		}
	}
}

func TestIsSierpinskiWordLooksAtEachPlace(t *testing.T) {
	for k, n := range shapes() {
		for i := range n {
			for _, number := range append(oddNumbers(), k) {
				word := tower(k-1, n)
				word[i] = number
				if impl.IsSierpinskiWord(k, word) {
					t.Errorf("IsSierpinskiWord(%d, %v) = true", k, word)
				}
			}
		}
	}
}

// TestLengthsOfWords has the greatest words, of exactly 6561 for three letters, and the first ones
// that are too long.
func TestLengthsOfWords(t *testing.T) {
	for k, most := range greatestTowers() {
		for n := range int64(70) {
			if yes := impl.IsSierpinskiWord(k, tower(1, n)); yes != (n <= most) {
				t.Errorf("IsSierpinskiWord(%d, %d numbers) = %v", k, n, yes)
			}
		}
	}
}

func TestWordNeighboursByHand(t *testing.T) {
	cases := []struct {
		k    int64
		word []int64
		want [][]int64
	}{
		{3, nil, nil},
		{5, []int64{}, nil},
		{3, []int64{0}, [][]int64{{1}, {2}}},
		{4, []int64{2}, [][]int64{{0}, {1}, {3}}},
		{5, []int64{4}, [][]int64{{0}, {1}, {2}, {3}}},
		{3, []int64{0, 0}, [][]int64{{1, 0}, {2, 0}}},
		{3, []int64{0, 1}, [][]int64{{1, 0}, {1, 1}, {2, 1}}},
		{3, []int64{2, 0, 0}, [][]int64{{0, 0, 0}, {0, 2, 0}, {1, 0, 0}}},
		{3, []int64{0, 1, 2}, [][]int64{{1, 0, 2}, {1, 1, 2}, {2, 1, 2}}},
		{5, []int64{4, 4, 0}, [][]int64{{0, 0, 4}, {0, 4, 0}, {1, 4, 0}, {2, 4, 0}, {3, 4, 0}}},
		{5, []int64{3, 3, 3, 3, 3}, [][]int64{{0, 3, 3, 3, 3}, {1, 3, 3, 3, 3}, {2, 3, 3, 3, 3}, {4, 3, 3, 3, 3}}},
		{3, []int64{1, 1, 1, 1, 1, 1, 1, 0}, [][]int64{
			{0, 0, 0, 0, 0, 0, 0, 1}, {0, 1, 1, 1, 1, 1, 1, 0}, {2, 1, 1, 1, 1, 1, 1, 0},
		}},
		{3, []int64{2, 2, 2, 2, 2, 2, 2, 2}, [][]int64{{0, 2, 2, 2, 2, 2, 2, 2}, {1, 2, 2, 2, 2, 2, 2, 2}}},
	}
	for _, c := range cases {
		if words, code := impl.WordNeighbours(c.k, c.word); !sameLists(words, c.want) || code != impl.ErrNone {
			t.Errorf("WordNeighbours(%d, %v) = %v, %d, want %v", c.k, c.word, words, code, c.want)
		}
	}
}

func TestWordNeighbours(t *testing.T) {
	for all := range wordGraphs() {
		for rank, word := range all.words {
			want := all.neighbourWords(int64(rank))
			if words, code := impl.WordNeighbours(all.letters, word); !sameLists(words, want) || code != impl.ErrNone {
				t.Fatalf("WordNeighbours(%d, %v) = %v, %d, want %v", all.letters, word, words, code, want)
			}
		}
	}
}

// areNeighbours reports whether two words of equally many numbers are as the document tells for the
// greatest place at which they differ.
func areNeighbours(a, b []int64) bool {
	if slices.Equal(a, b) {
		return false
	}
	i := greatestDifference(a, b)
	return slices.Equal(a[:i], tower(b[i], i)) && slices.Equal(b[:i], tower(a[i], i))
}

// TestWordNeighboursByTheirNumbers looks at all pairs of words of graphs with at most 256 words.
func TestWordNeighboursByTheirNumbers(t *testing.T) {
	for all := range wordGraphs() {
		if len(all.words) > 256 {
			continue
		}
		for _, a := range all.words {
			var want [][]int64
			for _, b := range all.words {
				if areNeighbours(a, b) {
					want = append(want, b)
				}
			}
			slices.SortFunc(want, slices.Compare)
			if words, code := impl.WordNeighbours(all.letters, a); !sameLists(words, want) || code != impl.ErrNone {
				t.Fatalf("WordNeighbours(%d, %v) = %v, %d, want %v", all.letters, a, words, code, want)
			}
		}
	}
}

// TestWordCountsByHand has numbers of edges and sums of distances.
func TestWordCountsByHand(t *testing.T) {
	cases := []struct{ k, n, edges, sum int64 }{
		{3, 0, 0, 0},
		{4, 0, 0, 0},
		{5, 0, 0, 0},
		{3, 1, 3, 2},
		{4, 1, 6, 3},
		{5, 1, 10, 4},
		{3, 2, 12, 18},
		{4, 2, 30, 36},
		{5, 2, 60, 60},
		{3, 3, 39, 126},
		{3, 8, 9840, 1115370},
		{4, 6, 8190, 193536},
		{5, 5, 7810, 77500},
	}
	for _, c := range cases {
		if edges, code := impl.CountWordEdges(c.k, c.n); edges != c.edges || code != impl.ErrNone {
			t.Errorf("CountWordEdges(%d, %d) = %d, %d, want %d", c.k, c.n, edges, code, c.edges)
		}
		if sum, code := impl.SumToExtreme(c.k, c.n); sum != c.sum || code != impl.ErrNone {
			t.Errorf("SumToExtreme(%d, %d) = %d, %d, want %d", c.k, c.n, sum, code, c.sum)
		}
	}
}

// TestWordCounts has sums to the extreme words of all letters, which are equal.
func TestWordCounts(t *testing.T) {
	for all := range wordGraphs() {
		k, n := all.letters, int64(len(all.words[0]))
		ends := int64(0)
		for _, ranks := range all.neighbours {
			ends += int64(len(ranks))
		}
		if edges, code := impl.CountWordEdges(k, n); 2*edges != ends || code != impl.ErrNone {
			t.Errorf("CountWordEdges(%d, %d) = %d, %d, want half of %d", k, n, edges, code, ends)
		}
		for j := range k {
			want := int64(0)
			for _, distance := range all.distancesToExtreme(j) {
				want += distance
			}
			if sum, code := impl.SumToExtreme(k, n); sum != want || code != impl.ErrNone {
				t.Errorf("SumToExtreme(%d, %d) = %d, %d, want %d", k, n, sum, code, want)
			}
		}
	}
}

func TestRenameWordByHand(t *testing.T) {
	cases := []struct {
		k                  int64
		word, images, want []int64
	}{
		{3, nil, []int64{2, 1, 0}, nil},
		{5, []int64{}, []int64{1, 2, 3, 4, 0}, nil},
		{3, []int64{0, 1, 2}, []int64{0, 1, 2}, []int64{0, 1, 2}},
		{3, []int64{0, 1, 2}, []int64{1, 2, 0}, []int64{1, 2, 0}},
		{3, []int64{2, 2, 0, 1}, []int64{1, 2, 0}, []int64{0, 0, 1, 2}},
		{3, []int64{0, 0, 1, 1, 2, 2, 0, 1}, []int64{2, 0, 1}, []int64{2, 2, 0, 0, 1, 1, 2, 0}},
		{4, []int64{3, 0, 0, 2, 1, 3}, []int64{3, 2, 1, 0}, []int64{0, 3, 3, 1, 2, 0}},
		{5, []int64{4, 0, 3, 1, 2}, []int64{1, 2, 3, 4, 0}, []int64{0, 1, 4, 2, 3}},
	}
	for _, c := range cases {
		if word, code := impl.RenameWord(c.k, c.word, c.images); !slices.Equal(word, c.want) || code != impl.ErrNone {
			t.Errorf("RenameWord(%d, %v, %v) = %v, %d, want %v", c.k, c.word, c.images, word, code, c.want)
		}
	}
}

// TestRenameWord has all permutations, and all words of graphs with at most 256 words.
func TestRenameWord(t *testing.T) {
	for k, n := range shapes() {
		words := wordsOf(k, n)
		if len(words) > 256 {
			continue
		}
		for _, images := range permutations(k) {
			for _, word := range words {
				var want []int64
				for _, number := range word {
					want = append(want, images[number])
				}
				if got, code := impl.RenameWord(k, word, images); !slices.Equal(got, want) || code != impl.ErrNone {
					t.Fatalf("RenameWord(%d, %v, %v) = %v, %d, want %v", k, word, images, got, code, want)
				}
			}
		}
	}
}
