package tests

import (
	"fmt"
	"slices"
	"testing"

	"loop.example/g01321/impl"
)

// roomyHeap returns a heap with spare capacity behind its Stacks and behind each of them.
func roomyHeap(h impl.Heap) impl.Heap {
	stacks := make([][]int64, len(h.Stacks), len(h.Stacks)+2)
	for peg, stack := range h.Stacks {
		stacks[peg] = roomy(stack...)
	}
	all := stacks[:cap(stacks)]
	for peg := len(stacks); peg < len(all); peg++ {
		all[peg] = roomy(sentinel)
	}
	return heap(stacks...)
}

// checkRoomyHeap fails if a heap of roomyHeap, or the spare capacity behind it, is no longer as it
// was.
func checkRoomyHeap(t *testing.T, what string, h, want impl.Heap) {
	t.Helper()
	if len(h.Stacks) != len(want.Stacks) {
		t.Fatalf("%s: the argument became %v, was %v", what, h, want)
	}
	for peg, stack := range h.Stacks {
		checkRoomy(t, what, stack, want.Stacks[peg]...)
	}
	for _, stack := range h.Stacks[len(h.Stacks):cap(h.Stacks)] {
		checkRoomy(t, what, stack, sentinel)
	}
}

// heapArguments returns regular heaps, others, and what is no heap.
func heapArguments() []impl.Heap {
	return []impl.Heap{
		heap(nil, nil, nil),
		onPeg(1, 0),
		onPeg(2, 1, 0),
		onPeg(0, 0, 1),
		heap([]int64{2, 0}, nil, []int64{1}),
		heap([]int64{0, 3}, []int64{2, 1}, nil),
		heap([]int64{2}, []int64{0, 3}, []int64{1}),
		onPeg(0, 3, 2, 1, 0),
		onPeg(1, 0, 1, 2, 3),
		{},
		heap([]int64{1}, []int64{0}),
		heap([]int64{1}, []int64{0}, nil, nil),
		heap([]int64{0}, []int64{0}, []int64{2}),
		onPeg(2, 4, 3, 2, 1, 0),
	}
}

// someHeapMoves returns moves that are legal in some heap of heapArguments, and others.
func someHeapMoves() []impl.Move {
	var moves []impl.Move
	for disc := range int64(impl.MaxHeap + 1) {
		for from := range int64(4) {
			for to := range int64(4) {
				moves = append(moves, move(disc, from, to))
			}
		}
	}
	return moves
}

// TestHeapsNotModified calls each function of chapter 6 that takes a heap.
func TestHeapsNotModified(t *testing.T) {
	for _, want := range heapArguments() {
		h := roomyHeap(want)
		for name, call := range allHeapCalls() {
			for _, m := range someHeapMoves() {
				call(h, m, m.To)
				checkRoomyHeap(t, name, h, want)
			}
		}
		impl.IsHeap(h)
		checkRoomyHeap(t, "IsHeap", h, want)
	}
}

func TestStatesOfHeapOfNotModified(t *testing.T) {
	for _, discs := range [][]int64{nil, {0}, {1, 0, 2}, {2, 2, 2, 2}, {0, 0, 1, 2, 0}, {0, 3}} {
		x := impl.State{Pegs: 3, Discs: roomy(discs...)}
		h, _ := impl.HeapOf(x)
		checkRoomy(t, "HeapOf", x.Discs, discs...)
		for _, stack := range h.Stacks {
			spoil(stack)
		}
		checkRoomy(t, "a result of HeapOf", x.Discs, discs...)
	}
}

// TestHeapsInOneList has Stacks that are parts of one list: what is put on one would be in the next
// one.
func TestHeapsInOneList(t *testing.T) {
	list := []int64{1, 0, 3, 2, sentinel, sentinel}
	before := slices.Clone(list)
	h := heap(list[:1], list[1:3], list[3:4])
	own := heap([]int64{1}, []int64{0, 3}, []int64{2})
	for _, m := range movesOfHeap(own) {
		after, code := impl.AfterHeapMove(h, m)
		wantHeap(t, "AfterHeapMove", after, movedInHeap(own, m), code)
	}
	for peg := range int64(3) {
		want, _ := impl.HeapWay(own, peg)
		if way, code := impl.HeapWay(h, peg); !slices.Equal(way, want) || code != impl.ErrNone {
			t.Errorf("HeapWay(%v, %d) = %v, %d, want %v", h, peg, way, code, want)
		}
	}
	if !slices.Equal(list, before) {
		t.Errorf("the list became %v, was %v", list, before)
	}
}

// heapLists returns calls of the functions of chapter 6 that return lists of discs and pegs.
func heapLists(h impl.Heap, x impl.State) map[string]func() [][]int64 {
	return map[string]func() [][]int64{
		"HeapOf":      func() [][]int64 { g, _ := impl.HeapOf(x); return g.Stacks },
		"StateOfHeap": func() [][]int64 { y, _ := impl.StateOfHeap(h); return [][]int64{y.Discs} },
		"AfterHeapMove": func() [][]int64 {
			var lists [][]int64
			for _, m := range someHeapMoves() {
				after, _ := impl.AfterHeapMove(h, m)
				lists = append(lists, after.Stacks...)
			}
			return lists
		},
	}
}

// TestHeapListsShareNoMemory overwrites each list of a result, with its spare capacity, and looks at
// the argument, at the other lists, and at a further call.
func TestHeapListsShareNoMemory(t *testing.T) {
	for _, want := range heapArguments() {
		h, x := roomyHeap(want), state(3, roomy(2, 0, 0)...)
		for name, call := range heapLists(h, x) {
			clean := copyOfHeap(heap(call()...)).Stacks
			for i := range clean {
				got := call()
				spoil(got[i])
				for j := range got {
					if j != i && !slices.Equal(got[j], clean[j]) {
						t.Errorf("%s of %v: the lists %d and %d share memory", name, want, i, j)
					}
				}
				checkRoomyHeap(t, name, h, want)
				checkRoomy(t, name, x.Discs, 2, 0, 0)
			}
			if again := call(); !sameLists(again, clean) {
				t.Errorf("%s of %v: %v, and once more %v", name, want, clean, again)
			}
		}
	}
}

// TestHeapsShareNoStacks overwrites the Stacks of results, and looks at the arguments.
func TestHeapsShareNoStacks(t *testing.T) {
	for _, want := range heapArguments() {
		h := roomyHeap(want)
		for _, m := range someHeapMoves() {
			after, _ := impl.AfterHeapMove(h, m)
			for peg := range after.Stacks[:cap(after.Stacks)] {
				after.Stacks[:cap(after.Stacks)][peg] = []int64{-99}
			}
			checkRoomyHeap(t, "AfterHeapMove", h, want)
		}
	}
}

// TestArgumentsOfHeapsNotKept overwrites arguments, and looks at the results.
func TestArgumentsOfHeapsNotKept(t *testing.T) {
	for _, argument := range heapArguments() {
		for name := range heapLists(heap(), state(3)) {
			h, x := roomyHeap(argument), state(3, roomy(1, 1, 0)...)
			got := heapLists(h, x)[name]()
			want := copyOfHeap(heap(got...)).Stacks
			spoil(x.Discs)
			for peg := range h.Stacks {
				spoil(h.Stacks[peg])
				h.Stacks[peg] = []int64{-99}
			}
			if !sameLists(got, want) {
				t.Errorf("%s of %v: %v became %v", name, argument, want, got)
			}
		}
	}
}

// TestMovesOfHeapsShareNoMemory overwrites moves, with their spare capacity, and looks at other calls.
func TestMovesOfHeapsShareNoMemory(t *testing.T) {
	for _, h := range heapArguments() {
		calls := map[string]func() []impl.Move{
			"HeapMoves": func() []impl.Move { moves, _ := impl.HeapMoves(h); return moves },
			"HeapWay":   func() []impl.Move { way, _ := impl.HeapWay(h, 0); return way },
		}
		for name, call := range calls {
			checkOwnMoves(t, fmt.Sprintf("%s of %v", name, h), call)
		}
	}
}
