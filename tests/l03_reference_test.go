package tests

import (
	"cmp"
	"iter"
	"slices"

	"loop.example/g01321/impl"
)

// What chapter 3 returns is held against the searches of graph_reference_test.go, and ways against
// lists of all shortest ways; neither calls the program.

// shortestWays returns all shortest ways from a state to the one to which the distances are.
func (all towers) shortestWays(from int64, distances []int64) [][]impl.Move {
	if distances[from] == 0 {
		return [][]impl.Move{nil}
	}
	var ways [][]impl.Move
	for i, m := range movesByStacks(all.states[from]) {
		next := all.neighbours[from][i]
		if distances[next] >= distances[from] {
			continue
		}
		for _, rest := range all.shortestWays(next, distances) {
			ways = append(ways, append([]impl.Move{m}, rest...))
		}
	}
	return ways
}

// leastOf returns the first one of ways, by Disc and then by To where they first differ.
func leastOf(ways [][]impl.Move) []impl.Move {
	return slices.MinFunc(ways, func(a, b []impl.Move) int {
		return slices.CompareFunc(a, b, func(x, y impl.Move) int {
			return cmp.Or(cmp.Compare(x.Disc, y.Disc), cmp.Compare(x.To, y.To))
		})
	})
}

// levelsOf returns how many states have each distance.
func levelsOf(distances []int64) []int64 {
	levels := make([]int64, slices.Max(distances)+1)
	for _, distance := range distances {
		levels[distance]++
	}
	return levels
}

// ranksWith returns the ranks at which a list has a number.
func ranksWith(list []int64, number int64) []int64 {
	var ranks []int64
	for rank := range list {
		if list[rank] == number {
			ranks = append(ranks, int64(rank))
		}
	}
	return ranks
}

// someRanks ranges over all ranks of at most 81 states, and otherwise over twelve of them, the first
// and the last one too.
func someRanks(count int) iter.Seq[int64] {
	return func(yield func(int64) bool) {
		chosen := min(count, 12)
		if count <= 81 {
			chosen = count
		}
		for i := range chosen {
			if !yield(int64(i * (count - 1) / max(chosen-1, 1))) {
				return
			}
		}
	}
}

// graphPairs ranges over the graphs of all numbers of pegs and discs with the ranks of pairs of
// states: all pairs of at most 81 states, and some of more.
func graphPairs() iter.Seq2[towers, [2]int64] {
	return func(yield func(towers, [2]int64) bool) {
		for k, n := range shapes() {
			all := towersOf(k, n)
			for i := range someRanks(len(all.states)) {
				for j := range someRanks(len(all.states)) {
					if !yield(all, [2]int64{i, j}) {
						return
					}
				}
			}
		}
	}
}

// noShapes returns numbers of pegs and discs for which there are no states.
func noShapes() [][2]int64 {
	var pairs [][2]int64
	for k, most := range greatestTowers() {
		pairs = append(pairs, [2]int64{k, most + 1}, [2]int64{k, impl.MaxDiscs + 1}, [2]int64{k, 64})
		for _, odd := range oddNumbers() {
			pairs = append(pairs, [2]int64{k, odd}, [2]int64{odd, most}, [2]int64{odd, odd})
		}
	}
	for _, k := range []int64{0, 1, 2, 6, 7, 259} {
		pairs = append(pairs, [2]int64{k, 0}, [2]int64{k, 1}, [2]int64{k, 4})
	}
	return pairs
}
