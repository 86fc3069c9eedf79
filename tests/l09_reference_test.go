package tests

import (
	"iter"
	"math/big"
	"slices"

	"loop.example/g01321/impl"
)

// What chapter 9 returns is held against the searches of graph_reference_test.go and the fractions of
// math/big; neither calls the program.

// searchedStates ranges over all states of graphs with at most MaxWhole states, and over some of
// greater graphs, with their distances to all states.
func searchedStates() iter.Seq2[impl.State, []int64] {
	return func(yield func(impl.State, []int64) bool) {
		for k, n := range shapes() {
			all := towersOf(k, n)
			few := slices.Collect(someRanks(len(all.states)))
			for i, x := range all.states {
				if len(all.states) > impl.MaxWhole && !slices.Contains(few, int64(i)) {
					continue
				}
				distances, _ := all.search(int64(i))
				if !yield(x, distances) {
					return
				}
			}
		}
	}
}

// terms has both numbers of a fraction.
type terms [2]int64

// termsOf returns both numbers of a fraction in lowest terms.
func termsOf(f *big.Rat) terms {
	return terms{f.Num().Int64(), f.Denom().Int64()}
}

// averageOf returns the average of numbers.
func averageOf(numbers []int64) *big.Rat {
	return big.NewRat(sumOf(numbers), int64(len(numbers)))
}

// spreadOf returns the average of the squares of what numbers are off their average: it is that of
// their squares, less the square of their average.
func spreadOf(numbers []int64) *big.Rat {
	average, sum := averageOf(numbers), new(big.Rat)
	for _, number := range numbers {
		off := new(big.Rat).Sub(big.NewRat(number, 1), average)
		sum.Add(sum, off.Mul(off, off))
	}
	return sum.Quo(sum, big.NewRat(int64(len(numbers)), 1))
}

// usualOf returns the number that is most often in a list, the least one of these.
func usualOf(numbers []int64) int64 {
	times := map[int64]int{}
	for _, number := range numbers {
		times[number]++
	}
	usual := numbers[0]
	for number := range times {
		if times[number] > times[usual] || times[number] == times[usual] && number < usual {
			usual = number
		}
	}
	return usual
}

// allDistances returns the distances of all pairs of states of n discs on three pegs, in both orders.
func allDistances(n int64) []int64 {
	var pairs []int64
	all := towersOf(3, n)
	for i := range all.states {
		distances, _ := all.search(int64(i))
		pairs = append(pairs, distances...)
	}
	return pairs
}

// timesOf returns how many moves of a way are those of a disc.
func timesOf(way []impl.Move, disc int64) int64 {
	times := int64(0)
	for _, m := range way {
		if m.Disc == disc {
			times++
		}
	}
	return times
}

// halvings returns how often a number of at least 1 can be divided by 2.
func halvings(number int64) int64 {
	times := int64(0)
	for number%2 == 0 {
		number /= 2
		times++
	}
	return times
}
