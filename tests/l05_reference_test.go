package tests

import (
	"iter"
	"math"
	"slices"

	"loop.example/g01321/impl"
)

// What chapter 5 returns is held against searches among all words of rings, whose changes are told as
// in the document, and against sums; neither calls the program.

// ringGraph has all words of n rings, each at the place that is the sum of 2^i over all rings i that
// are on, and the places of the words after one change.
type ringGraph struct {
	words      [][]int64
	neighbours [][]int64
}

func ringGraphOf(n int64) ringGraph {
	all := ringGraph{words: wordsOf(2, n)}
	for place, word := range all.words {
		var next []int64
		for _, i := range changeable(word) {
			next = append(next, int64(place)^1<<i)
		}
		all.neighbours = append(all.neighbours, next)
	}
	return all
}

// changeable returns the rings of a word that can be changed.
func changeable(word []int64) []int64 {
	var found []int64
	for i := range int64(len(word)) {
		if i == 0 || word[i-1] == 1 && !slices.Contains(word[:i-1], 1) {
			found = append(found, i)
		}
	}
	return found
}

// changed returns the word with a ring changed.
func changed(word []int64, i int64) []int64 {
	next := slices.Clone(word)
	next[i] = 1 - next[i]
	return next
}

// rankBySums returns the rank of a word.
func rankBySums(word []int64) int64 {
	rank := int64(0)
	for i := range word {
		sum := int64(0)
		for _, number := range word[i:] {
			sum += number
		}
		rank += sum % 2 << i
	}
	return rank
}

// inOrder returns all words by their distances from that with all rings off.
func (all ringGraph) inOrder() [][]int64 {
	distances, _ := search(all.neighbours, 0)
	words := make([][]int64, len(all.words))
	for place, distance := range distances {
		words[distance] = all.words[place]
	}
	return words
}

// ringsOfSteps returns the rings that are changed between the words in their order.
func (all ringGraph) ringsOfSteps() []int64 {
	var rings []int64
	words := all.inOrder()
	for t := 1; t < len(words); t++ {
		rings = append(rings, greatestDifference(words[t-1], words[t]))
	}
	return rings
}

// wayBySearch returns the rings that are changed from a place to the one to which the distances are.
func (all ringGraph) wayBySearch(from int64, distances []int64) []int64 {
	var way []int64
	for distances[from] > 0 {
		nearer := slices.IndexFunc(all.neighbours[from], func(next int64) bool { return distances[next] < distances[from] })
		next := all.neighbours[from][nearer]
		way = append(way, greatestDifference(all.words[from], all.words[next]))
		from = next
	}
	return way
}

// ringGraphs ranges over all numbers of rings and their graphs.
func ringGraphs() iter.Seq2[int64, ringGraph] {
	return func(yield func(int64, ringGraph) bool) {
		for n := range int64(impl.MaxRings + 1) {
			if !yield(n, ringGraphOf(n)) {
				return
			}
		}
	}
}

// ringWords ranges over all words of rings.
func ringWords() iter.Seq[[]int64] {
	return func(yield func([]int64) bool) {
		for n := range int64(impl.MaxRings + 1) {
			for _, word := range wordsOf(2, n) {
				if !yield(word) {
					return
				}
			}
		}
	}
}

// ringPairs ranges over all pairs of words of at most six rings, and, of more, over the pairs of
// twelve words, of that with the last ring alone on, and of its neighbour.
func ringPairs() iter.Seq2[[]int64, []int64] {
	return func(yield func([]int64, []int64) bool) {
		for n := range int64(impl.MaxRings + 1) {
			words := someRingWords(n)
			for _, a := range words {
				for _, b := range words {
					if !yield(a, b) {
						return
					}
				}
			}
		}
	}
}

// someRingWords returns the words of ringPairs.
func someRingWords(n int64) [][]int64 {
	all := wordsOf(2, n)
	if n <= 6 {
		return all
	}
	words := [][]int64{lastAloneOn(n), changed(lastAloneOn(n), 0)}
	for place := range someRanks(len(all)) {
		words = append(words, all[place])
	}
	return words
}

// lastAloneOn returns the word of n rings, at least one, with the last one alone on.
func lastAloneOn(n int64) []int64 {
	return changed(tower(0, n), n-1)
}

// noRings returns lists that are no words of rings, each for a reason of its own.
func noRings() map[string][]int64 {
	return map[string][]int64{
		"17 rings off":       tower(0, 17),
		"17 rings on":        tower(1, 17),
		"64 rings":           tower(0, 64),
		"70 rings":           tower(1, 70),
		"2":                  {2},
		"-1":                 {-1},
		"first number 2":     {2, 0, 1},
		"last number 2":      {0, 1, 2},
		"number 3":           {1, 3, 0},
		"number -1":          {0, -1, 0},
		"1 beyond a byte":    {257},
		"0 beyond a byte":    {1, 256},
		"1 beyond 32 bits":   {1<<32 + 1, 0},
		"0 beyond 32 bits":   {0, 1 << 32, 1},
		"least number":       {math.MinInt64},
		"greatest number":    {1, 1, math.MaxInt64},
		"2 among 16":         slices.Insert(tower(1, 15), 7, 2),
		"2 behind 16":        slices.Concat(tower(0, 16), []int64{2}),
		"digits of a text":   {'0', '1'},
		"two that add up":    {-1, 2},
		"all numbers are 2":  tower(2, 16),
		"all numbers are -1": tower(-1, 4),
	}
}

// noRingNumbers returns numbers of which there are no rings.
func noRingNumbers() []int64 {
	return append(oddNumbers(), 17, 18, 31, 32, 33, 62, 63, 64, 65, 128, 256, 272, 1<<32+4)
}
