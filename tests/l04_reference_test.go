package tests

import (
	"iter"
	"slices"

	"loop.example/g01321/impl"
)

// What chapter 4 returns is held against searches in Sierpinski graphs that are put together from
// lesser ones, and words of states against reflections; neither calls the program.

// wordGraph has all words of n numbers of k letters by their ranks, which are the sums of the
// numbers at the places i times k^i, and the ranks of their neighbours.
type wordGraph struct {
	letters    int64
	words      [][]int64
	neighbours [][]int64
}

// wordGraphOf puts k copies of the graph with one number less together, one for each last number:
// those of a and b are joined between their extreme words of b and of a.
func wordGraphOf(k, n int64) wordGraph {
	neighbours := [][]int64{nil}
	count, ones := int64(1), int64(0)
	for range n {
		var next [][]int64
		for a := range k {
			for _, ranks := range neighbours {
				var shifted []int64
				for _, rank := range ranks {
					shifted = append(shifted, a*count+rank)
				}
				next = append(next, shifted)
			}
		}
		for a := range k {
			for b := range k {
				if a != b {
					from := a*count + b*ones
					next[from] = append(next[from], b*count+a*ones)
				}
			}
		}
		neighbours = next
		ones += count
		count *= k
	}
	return wordGraph{letters: k, words: wordsOf(k, n), neighbours: neighbours}
}

// wordsOf returns all words of n numbers of k letters by their ranks.
func wordsOf(k, n int64) [][]int64 {
	var words [][]int64
	for _, x := range statesOf(k, n) {
		words = append(words, x.Discs)
	}
	return words
}

// wordGraphs ranges over the graphs of all numbers of letters and of numbers.
func wordGraphs() iter.Seq[wordGraph] {
	return func(yield func(wordGraph) bool) {
		for k, n := range shapes() {
			if !yield(wordGraphOf(k, n)) {
				return
			}
		}
	}
}

// neighbourWords returns the neighbours of the word with a rank, in lexicographic order.
func (all wordGraph) neighbourWords(rank int64) [][]int64 {
	var words [][]int64
	for _, next := range all.neighbours[rank] {
		words = append(words, all.words[next])
	}
	slices.SortFunc(words, slices.Compare)
	return words
}

// rankOfWord returns the rank of a word of k letters.
func rankOfWord(k int64, word []int64) int64 {
	return rankBySum(state(k, word...))
}

// distancesToExtreme returns the distances of all words to the extreme word of a letter.
func (all wordGraph) distancesToExtreme(j int64) []int64 {
	n := int64(len(all.words[0]))
	distances, _ := search(all.neighbours, rankOfWord(all.letters, tower(j, n)))
	return distances
}

// someWords ranges over the ranks of words from which all others are looked at: all of at most 256
// words, and twelve of more.
func (all wordGraph) someWords() iter.Seq[int64] {
	return func(yield func(int64) bool) {
		if len(all.words) > 256 {
			someRanks(len(all.words))(yield)
			return
		}
		for rank := range int64(len(all.words)) {
			if !yield(rank) {
				return
			}
		}
	}
}

// wordPair has two words of k letters.
type wordPair struct {
	k    int64
	a, b []int64
}

// wordPairs ranges over all pairs of words of graphs with at most 256 words, and, of greater ones,
// over the pairs of twelve words and all words.
func wordPairs() iter.Seq[wordPair] {
	return func(yield func(wordPair) bool) {
		for all := range wordGraphs() {
			for i := range all.someWords() {
				for _, b := range all.words {
					if !yield(wordPair{k: all.letters, a: all.words[i], b: b}) {
						return
					}
				}
			}
		}
	}
}

// greatestDifference returns the greatest place at which two different words differ.
func greatestDifference(a, b []int64) int64 {
	i := int64(len(a)) - 1
	for a[i] == b[i] {
		i--
	}
	return i
}

// wordByReflections returns the word of a state with three pegs. The letter of a disc is the peg to
// which its own one goes by one reflection for each greater disc, the next greater one first; that
// of a disc on a leaves a where it is, and exchanges both other pegs.
func wordByReflections(x impl.State) []int64 {
	var word []int64
	for d, letter := range x.Discs {
		for _, a := range x.Discs[d+1:] {
			letter = (2*a - letter + 3) % 3
		}
		word = append(word, letter)
	}
	return word
}

// permutations returns all lists that have each one of 0..k - 1 once.
func permutations(k int64) [][]int64 {
	if k == 0 {
		return [][]int64{nil}
	}
	var lists [][]int64
	for _, rest := range permutations(k - 1) {
		for i := range k {
			lists = append(lists, slices.Insert(slices.Clone(rest), int(i), k-1))
		}
	}
	return lists
}
