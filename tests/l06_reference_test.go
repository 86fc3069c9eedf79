package tests

import (
	"fmt"
	"iter"
	"math"
	"slices"
	"testing"

	"loop.example/g01321/impl"
)

// What chapter 6 returns is held against lists of all heaps and against searches from each of them,
// which do not call the program.

// heap returns the heap with some Stacks.
func heap(stacks ...[]int64) impl.Heap {
	return impl.Heap{Stacks: stacks}
}

// sameHeap reports whether two heaps are equal; a nil Stack and an empty one are.
func sameHeap(x, y impl.Heap) bool {
	return sameLists(x.Stacks, y.Stacks)
}

// heapsOf returns all heaps of n discs: each order of them is parted in each way.
func heapsOf(n int64) []impl.Heap {
	var heaps []impl.Heap
	for _, list := range permutations(n) {
		for parted := range partsOf(list) {
			heaps = append(heaps, parted)
		}
	}
	return heaps
}

// partsOf ranges over the three Stacks that a list is parted into, in each way.
func partsOf(list []int64) iter.Seq[impl.Heap] {
	return func(yield func(impl.Heap) bool) {
		for j := range len(list) + 1 {
			for i := range j + 1 {
				if !yield(heap(slices.Clone(list[:i]), slices.Clone(list[i:j]), slices.Clone(list[j:]))) {
					return
				}
			}
		}
	}
}

// allHeaps ranges over all heaps, with their numbers of discs.
func allHeaps() iter.Seq2[int64, impl.Heap] {
	return func(yield func(int64, impl.Heap) bool) {
		for n := range int64(impl.MaxHeap + 1) {
			for _, h := range heapsOf(n) {
				if !yield(n, h) {
					return
				}
			}
		}
	}
}

// onPeg returns the heap with all discs of a list on one peg.
func onPeg(a int64, discs ...int64) impl.Heap {
	h := heap(nil, nil, nil)
	h.Stacks[a] = discs
	return h
}

// downFrom returns the discs n - 1, .., 0.
func downFrom(n int64) []int64 {
	discs := upTo(n)
	slices.Reverse(discs)
	return discs
}

// upTo returns the discs 0, .., n - 1.
func upTo(n int64) []int64 {
	var discs []int64
	for d := range n {
		discs = append(discs, d)
	}
	return discs
}

// topOfHeap returns the top of a Stack, or a number greater than all discs.
func topOfHeap(stack []int64) int64 {
	if len(stack) == 0 {
		return math.MaxInt64
	}
	return stack[len(stack)-1]
}

// legalInHeap reports whether a move is legal in a heap.
func legalInHeap(h impl.Heap, m impl.Move) bool {
	if m.From < 0 || m.From > 2 || m.To < 0 || m.To > 2 || m.From == m.To || len(h.Stacks[m.From]) == 0 {
		return false
	}
	return topOfHeap(h.Stacks[m.From]) == m.Disc && topOfHeap(h.Stacks[m.To]) > m.Disc
}

// movesOfHeap returns the legal moves of a heap, in their order.
func movesOfHeap(h impl.Heap) []impl.Move {
	var moves []impl.Move
	for disc := range int64(impl.MaxHeap) {
		for to := range int64(3) {
			for from := range int64(3) {
				if m := move(disc, from, to); legalInHeap(h, m) {
					moves = append(moves, m)
				}
			}
		}
	}
	return moves
}

// copyOfHeap returns a heap in its own memory.
func copyOfHeap(h impl.Heap) impl.Heap {
	var stacks [][]int64
	for _, stack := range h.Stacks {
		stacks = append(stacks, slices.Clone(stack))
	}
	return heap(stacks...)
}

// movedInHeap returns the heap after a legal move.
func movedInHeap(h impl.Heap, m impl.Move) impl.Heap {
	next := copyOfHeap(h)
	from := next.Stacks[m.From]
	next.Stacks[m.From] = from[:len(from)-1]
	next.Stacks[m.To] = append(next.Stacks[m.To], m.Disc)
	return next
}

// wrongPairsOf counts the wrong pairs of a heap.
func wrongPairsOf(h impl.Heap) int64 {
	count := int64(0)
	for _, stack := range h.Stacks {
		for above := range stack {
			for below := range above {
				if stack[above] > stack[below] {
					count++
				}
			}
		}
	}
	return count
}

// heapGraph has all heaps of n discs, and the places of the heaps after their legal moves.
type heapGraph struct {
	heaps      []impl.Heap
	places     map[string]int64
	neighbours [][]int64
}

func heapGraphOf(n int64) heapGraph {
	all := heapGraph{heaps: heapsOf(n), places: map[string]int64{}}
	for place, h := range all.heaps {
		all.places[heapKey(h)] = int64(place)
	}
	for _, h := range all.heaps {
		var next []int64
		for _, m := range movesOfHeap(h) {
			next = append(next, all.placeOf(movedInHeap(h, m)))
		}
		all.neighbours = append(all.neighbours, next)
	}
	return all
}

// heapKey returns a text that only equal heaps share.
func heapKey(h impl.Heap) string {
	return fmt.Sprint(h.Stacks)
}

func (all heapGraph) placeOf(h impl.Heap) int64 {
	place, ok := all.places[heapKey(h)]
	if !ok {
		panic("not among the heaps: " + heapKey(h))
	}
	return place
}

// distancesTo returns the distances of all heaps to a heap, each one by a search of its own.
func (all heapGraph) distancesTo(goal impl.Heap) []int64 {
	var found []int64
	for place := range all.heaps {
		distances, _ := search(all.neighbours, int64(place))
		found = append(found, distances[all.placeOf(goal)])
	}
	return found
}

// chosenWay returns the chosen way from a place to the heap to which the distances are.
func (all heapGraph) chosenWay(from int64, distances []int64) []impl.Move {
	var way []impl.Move
	for distances[from] > 0 {
		moves := movesOfHeap(all.heaps[from])
		i := slices.IndexFunc(all.neighbours[from], func(next int64) bool { return distances[next] == distances[from]-1 })
		way = append(way, moves[i])
		from = all.neighbours[from][i]
	}
	return way
}

// heapGoal has a number of discs, a peg, and the distances of all heaps of so many discs, by their
// places, to the perfect one on the peg.
type heapGoal struct {
	n, peg    int64
	distances []int64
}

// heapGoals ranges over the graphs of all heaps and the goals on all pegs.
func heapGoals() iter.Seq2[heapGraph, heapGoal] {
	return func(yield func(heapGraph, heapGoal) bool) {
		for n := range int64(impl.MaxHeap + 1) {
			all := heapGraphOf(n)
			for peg := range int64(3) {
				distances := all.distancesTo(onPeg(peg, downFrom(n)...))
				if !yield(all, heapGoal{n: n, peg: peg, distances: distances}) {
					return
				}
			}
		}
	}
}

// noHeaps returns what is no heap, each for a reason of its own.
func noHeaps() map[string]impl.Heap {
	return map[string]impl.Heap{
		"zero value":                    {},
		"no Stacks":                     heap(),
		"one Stack, no discs":           heap(nil),
		"one Stack, two discs":          heap([]int64{1, 0}),
		"two Stacks, no discs":          heap(nil, nil),
		"two Stacks, two discs":         heap([]int64{1}, []int64{0}),
		"four Stacks, no discs":         heap(nil, nil, nil, nil),
		"four Stacks, four discs":       heap([]int64{3}, []int64{2}, []int64{1}, []int64{0}),
		"four Stacks, the last empty":   heap([]int64{1}, []int64{0}, nil, nil),
		"six Stacks":                    heap(nil, nil, nil, nil, nil, []int64{0}),
		"five discs on a peg":           onPeg(0, 4, 3, 2, 1, 0),
		"five discs on three pegs":      heap([]int64{4, 0}, []int64{1, 2}, []int64{3}),
		"five discs, no disc 4":         heap([]int64{3, 0}, []int64{1, 2}, []int64{0}),
		"nine discs":                    onPeg(1, downFrom(9)...),
		"many discs":                    onPeg(2, downFrom(1000)...),
		"the disc 0 missing":            onPeg(0, 1),
		"the disc 1 missing":            heap([]int64{0}, nil, []int64{2}),
		"the disc 2 missing of four":    heap([]int64{0, 3}, []int64{1}, nil),
		"the disc 0 missing of four":    heap([]int64{3, 2, 1}, []int64{4}, nil),
		"the disc 0 twice on a peg":     onPeg(1, 0, 0),
		"the disc 0 twice on two pegs":  heap([]int64{0}, []int64{0}, nil),
		"the disc 1 twice, no disc 2":   heap([]int64{1}, []int64{0}, []int64{1}),
		"the disc 3 twice of four":      heap([]int64{3, 2}, []int64{3}, []int64{1}),
		"the disc 0 three times":        heap([]int64{0}, []int64{0}, []int64{0}),
		"all four discs are 0":          onPeg(0, 0, 0, 0, 0),
		"a negative disc":               onPeg(0, -1),
		"a negative disc and 0":         heap([]int64{-1}, []int64{0}, nil),
		"a negative disc behind 0 to 2": heap([]int64{2, 1, 0}, []int64{-1}, nil),
		"a negative disc, four others":  heap([]int64{3, 2, 1, 0}, []int64{-1}, nil),
		"the disc 1 of one":             onPeg(2, 1),
		"the disc 4 of four":            onPeg(0, 4, 2, 1, 0),
		"the disc 4 alone":              onPeg(0, 4),
		"the least disc":                onPeg(0, math.MinInt64),
		"the greatest disc":             heap([]int64{0}, nil, []int64{math.MaxInt64}),
		"the disc 0 beyond a byte":      onPeg(0, 256),
		"the disc 1 beyond 32 bits":     heap([]int64{0}, []int64{1<<32 + 1}, nil),
	}
}

// noHeapNumbers returns numbers of discs of which there are no heaps.
func noHeapNumbers() []int64 {
	return append(oddNumbers(), 5, 6, 8, 9, 16, 256, 260, 1<<32+4)
}

// wantHeap fails if a heap is not the wanted one, or comes with an error.
func wantHeap(t *testing.T, what string, h, want impl.Heap, code int64) {
	t.Helper()
	if !sameHeap(h, want) || code != impl.ErrNone {
		t.Errorf("%s: %v, %d, want %v", what, h, code, want)
	}
}
