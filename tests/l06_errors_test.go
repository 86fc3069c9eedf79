package tests

import (
	"testing"

	"loop.example/g01321/impl"
)

// heapCall calls a function of a heap, which leaves out of a move and a peg what it does not take, and
// reports whether all results but the code are zero.
type heapCall func(h impl.Heap, m impl.Move, a int64) (bool, int64)

// oneHeapCalls returns the functions of chapter 6 that take a heap alone.
func oneHeapCalls() map[string]heapCall {
	return map[string]heapCall{
		"IsRegularHeap": func(h impl.Heap, _ impl.Move, _ int64) (bool, int64) {
			v, c := impl.IsRegularHeap(h)
			return !v, c
		},
		"StateOfHeap": func(h impl.Heap, _ impl.Move, _ int64) (bool, int64) {
			v, c := impl.StateOfHeap(h)
			return isZeroState(v), c
		},
		"CountWrongPairs": func(h impl.Heap, _ impl.Move, _ int64) (bool, int64) {
			v, c := impl.CountWrongPairs(h)
			return v == 0, c
		},
		"HeapMoves": func(h impl.Heap, _ impl.Move, _ int64) (bool, int64) {
			v, c := impl.HeapMoves(h)
			return len(v) == 0, c
		},
	}
}

// heapPegCalls returns the functions of chapter 6 that take a heap and a peg.
func heapPegCalls() map[string]heapCall {
	return map[string]heapCall{
		"HeapDistance": func(h impl.Heap, _ impl.Move, a int64) (bool, int64) {
			v, c := impl.HeapDistance(h, a)
			return v == 0, c
		},
		"HeapWay": func(h impl.Heap, _ impl.Move, a int64) (bool, int64) {
			v, c := impl.HeapWay(h, a)
			return len(v) == 0, c
		},
	}
}

// afterHeapMoveCall calls AfterHeapMove.
func afterHeapMoveCall(h impl.Heap, m impl.Move, _ int64) (bool, int64) {
	v, c := impl.AfterHeapMove(h, m)
	return len(v.Stacks) == 0, c
}

// allHeapCalls returns the functions of chapter 6 that take a heap.
func allHeapCalls() map[string]heapCall {
	calls := map[string]heapCall{"AfterHeapMove": afterHeapMoveCall}
	for _, some := range []map[string]heapCall{oneHeapCalls(), heapPegCalls()} {
		for name, call := range some {
			calls[name] = call
		}
	}
	return calls
}

// heapOfCall calls HeapOf.
func heapOfCall(x impl.State, _ int64, _ impl.State) (bool, int64) {
	v, c := impl.HeapOf(x)
	return len(v.Stacks) == 0, c
}

// checkHeapError fails if a call does not return an error and zero values.
func checkHeapError(t *testing.T, name string, call heapCall, h impl.Heap, m impl.Move, a int64, want int64) {
	t.Helper()
	if zero, code := call(h, m, a); !zero || code != want {
		t.Errorf("%s of %v, %v, %d: code %d, want %d, other results zero: %v", name, h, m, a, code, want, zero)
	}
}

// TestNoHeaps has moves and pegs that are refused, too: ErrInvalid comes before ErrRange and ErrState.
func TestNoHeaps(t *testing.T) {
	moves := []impl.Move{move(0, 0, 1), move(0, 1, 2), move(1, 0, 2), move(0, 0, 0), move(-1, 0, 1), move(4, 5, -6), move(0, 3, 4)}
	for why, h := range noHeaps() {
		for name, call := range allHeapCalls() {
			for _, peg := range append(noPegs(), 0, 1, 2) {
				for _, m := range moves {
					checkHeapError(t, name+" with "+why, call, h, m, peg, impl.ErrInvalid)
				}
			}
		}
	}
}

// TestPegsOfNoHeaps has all heaps, that of no discs, too, and pegs that there are not.
func TestPegsOfNoHeaps(t *testing.T) {
	for _, h := range allHeaps() {
		for name, call := range heapPegCalls() {
			for _, peg := range noPegs() {
				checkHeapError(t, name, call, h, impl.Move{}, peg, impl.ErrRange)
			}
		}
	}
}

// TestHeapsOfNoStates has what is no state: ErrInvalid comes before ErrRange.
func TestHeapsOfNoStates(t *testing.T) {
	for why, x := range noStates() {
		checkError(t, "HeapOf "+why, heapOfCall, x, 0, impl.State{}, impl.ErrInvalid)
	}
}

// TestHeapsOfOtherStates has states of four and five pegs, and of five to eight discs on three pegs.
func TestHeapsOfOtherStates(t *testing.T) {
	for k, n := range shapes() {
		for peg := range k {
			x := state(k, tower(peg, n)...)
			if k != 3 || n > 4 {
				checkError(t, "HeapOf", heapOfCall, x, 0, impl.State{}, impl.ErrRange)
			} else if _, code := impl.HeapOf(x); code != impl.ErrNone {
				t.Errorf("HeapOf(%v): code %d", x, code)
			}
		}
	}
	for _, x := range statesOf(3, 5) {
		checkError(t, "HeapOf", heapOfCall, x, 0, impl.State{}, impl.ErrRange)
	}
}

// TestStatesOfHeapsThatAreNotRegular has heaps with one wrong pair, and with all pairs wrong.
func TestStatesOfHeapsThatAreNotRegular(t *testing.T) {
	heaps := []impl.Heap{
		onPeg(0, 0, 1), onPeg(1, 0, 1), onPeg(2, 0, 1),
		onPeg(0, 2, 0, 1), onPeg(1, 1, 2, 0),
		heap([]int64{3, 2}, []int64{0, 1}, nil), heap(nil, []int64{1, 0}, []int64{2, 3}),
		onPeg(2, 3, 2, 0, 1), onPeg(2, 2, 3, 1, 0), onPeg(0, 0, 1, 2, 3),
	}
	for _, h := range heaps {
		if x, code := impl.StateOfHeap(h); !isZeroState(x) || code != impl.ErrState {
			t.Errorf("StateOfHeap(%v) = %v, %d", h, x, code)
		}
	}
}

func TestNumbersOfNoHeaps(t *testing.T) {
	for _, n := range noHeapNumbers() {
		if count, code := impl.CountHeaps(n); count != 0 || code != impl.ErrRange {
			t.Errorf("CountHeaps(%d) = %d, %d", n, count, code)
		}
		for _, peg := range append(noPegs(), 0, 1, 2) {
			checkNoWorstHeaps(t, n, peg)
		}
	}
	for n := range int64(impl.MaxHeap + 1) {
		for _, peg := range noPegs() {
			checkNoWorstHeaps(t, n, peg)
		}
	}
}

// checkNoWorstHeaps fails if WorstHeaps does not return ErrRange and zero values.
func checkNoWorstHeaps(t *testing.T, n, peg int64) {
	t.Helper()
	if worst, count, code := impl.WorstHeaps(n, peg); worst != 0 || count != 0 || code != impl.ErrRange {
		t.Errorf("WorstHeaps(%d, %d) = %d, %d, %d", n, peg, worst, count, code)
	}
}

// TestHeapsWithoutErrors has heaps on which no function but StateOfHeap fails, and no legal move.
func TestHeapsWithoutErrors(t *testing.T) {
	for _, h := range allHeaps() {
		for name, call := range oneHeapCalls() {
			want := int64(impl.ErrNone)
			if name == "StateOfHeap" && wrongPairsOf(h) > 0 {
				want = impl.ErrState
			}
			_, code := call(h, impl.Move{}, 0)
			wantCode(t, name, code, want)
		}
		for name, call := range heapPegCalls() {
			for peg := range int64(3) {
				_, code := call(h, impl.Move{}, peg)
				wantCode(t, name, code, impl.ErrNone)
			}
		}
		for _, m := range movesOfHeap(h) {
			_, code := afterHeapMoveCall(h, m, 0)
			wantCode(t, "AfterHeapMove", code, impl.ErrNone)
		}
	}
}
