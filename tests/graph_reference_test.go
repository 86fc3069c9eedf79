package tests

import (
	"slices"

	"loop.example/g01321/impl"
)

// Searches in the graph of all states, and in other graphs, which do not call the program.

// towers has all states of n discs on k pegs by their ranks, and the ranks of the neighbours, in the
// order of the moves.
type towers struct {
	states     []impl.State
	neighbours [][]int64
}

func towersOf(k, n int64) towers {
	var all towers
	for _, x := range statesOf(k, n) {
		var next []int64
		for _, m := range movesByStacks(x) {
			next = append(next, rankBySum(moved(x, m)))
		}
		all.states = append(all.states, x)
		all.neighbours = append(all.neighbours, next)
	}
	return all
}

// rankBySum returns the rank of a state.
func rankBySum(x impl.State) int64 {
	rank := int64(0)
	for d := len(x.Discs) - 1; d >= 0; d-- {
		rank = x.Pegs*rank + x.Discs[d]
	}
	return rank
}

// search returns, for all ranks, the distance from a state and the number of shortest ways.
func (all towers) search(from int64) ([]int64, []int64) {
	return search(all.neighbours, from)
}

// search returns, for all places in a list of lists of neighbours, the distance from one of them and
// the number of shortest ways.
func search(neighbours [][]int64, from int64) ([]int64, []int64) {
	distances, ways := slices.Repeat([]int64{-1}, len(neighbours)), make([]int64, len(neighbours))
	distances[from], ways[from] = 0, 1
	queue := []int64{from}
	for i := 0; i < len(queue); i++ {
		for _, next := range neighbours[queue[i]] {
			if distances[next] < 0 {
				distances[next] = distances[queue[i]] + 1
				queue = append(queue, next)
			}
			if distances[next] == distances[queue[i]]+1 {
				ways[next] += ways[queue[i]]
			}
		}
	}
	return distances, ways
}

// perfect returns the rank of the state with all discs on a peg.
func (all towers) perfect(a int64) int64 {
	x := all.states[0]
	return rankBySum(state(x.Pegs, tower(a, int64(len(x.Discs)))...))
}

// tower returns the pegs of n discs that are all on one peg.
func tower(a, n int64) []int64 {
	return slices.Repeat([]int64{a}, int(n))
}
