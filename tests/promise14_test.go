package tests

import (
	"iter"
	"slices"
	"testing"

	"loop.example/g01321/impl"
)

// Promise 14, its first part: regular heaps have the distances of their states.

// heapStates ranges over all states of three pegs and at most MaxHeap discs.
func heapStates() iter.Seq[impl.State] {
	return func(yield func(impl.State) bool) {
		for n := range int64(impl.MaxHeap + 1) {
			for _, x := range statesOf(3, n) {
				if !yield(x) {
					return
				}
			}
		}
	}
}

// heapOfState returns the heap of a state, which has to have one.
func heapOfState(t *testing.T, x impl.State) impl.Heap {
	t.Helper()
	h, code := impl.HeapOf(x)
	wantCode(t, "HeapOf", code, impl.ErrNone)
	return h
}

func TestPromise14RegularHeapsHaveTheDistancesOfTheirStates(t *testing.T) {
	for x := range heapStates() {
		h := heapOfState(t, x)
		for peg := range int64(3) {
			distance, code := impl.DistanceToPeg(x, peg)
			wantCode(t, "DistanceToPeg", code, impl.ErrNone)
			if ofHeap, code := impl.HeapDistance(h, peg); ofHeap != distance || code != impl.ErrNone {
				t.Errorf("the distance of %v and %d is %d, that of its heap %d, %d", x, peg, distance, ofHeap, code)
			}
		}
	}
}

// TestPromise14RegularHeapsHaveTheWaysOfTheirStates holds since there is just one way.
func TestPromise14RegularHeapsHaveTheWaysOfTheirStates(t *testing.T) {
	for x := range heapStates() {
		h := heapOfState(t, x)
		for peg := range int64(3) {
			way, code := impl.WayToPeg(x, peg)
			wantCode(t, "WayToPeg", code, impl.ErrNone)
			if ofHeap, code := impl.HeapWay(h, peg); !slices.Equal(ofHeap, way) || code != impl.ErrNone {
				t.Errorf("the way from %v to %d is %v, that of its heap %v, %d", x, peg, way, ofHeap, code)
			}
		}
	}
}

func TestPromise14RegularHeapsLeadBackToStates(t *testing.T) {
	for x := range heapStates() {
		h := heapOfState(t, x)
		if regular, code := impl.IsRegularHeap(h); !regular || code != impl.ErrNone {
			t.Errorf("the heap %v of %v is regular: %v, %d", h, x, regular, code)
		}
		if back, code := impl.StateOfHeap(h); !sameState(back, x) || code != impl.ErrNone {
			t.Errorf("the heap %v of %v leads back to %v, %d", h, x, back, code)
		}
	}
	for _, h := range allHeaps() {
		x, code := impl.StateOfHeap(h)
		if code != impl.ErrNone {
			continue
		}
		if back := heapOfState(t, x); !sameHeap(back, h) {
			t.Errorf("the state %v of %v leads back to %v", x, h, back)
		}
	}
}

func TestPromise14RegularHeapsHaveTheMovesOfTheirStates(t *testing.T) {
	for x := range heapStates() {
		h := heapOfState(t, x)
		moves, code := impl.LegalMoves(x)
		wantCode(t, "LegalMoves", code, impl.ErrNone)
		if ofHeap, code := impl.HeapMoves(h); !slices.Equal(ofHeap, moves) || code != impl.ErrNone {
			t.Errorf("the moves of %v are %v, those of its heap %v, %d", x, moves, ofHeap, code)
		}
		for _, m := range moves {
			y, code := impl.AfterMove(x, m)
			wantCode(t, "AfterMove", code, impl.ErrNone)
			after, code := impl.AfterHeapMove(h, m)
			wantHeap(t, "AfterHeapMove", after, heapOfState(t, y), code)
		}
	}
}

// TestPromise14HeapsOfStatesHaveTheirStacks has the Stacks of chapter 1.
func TestPromise14HeapsOfStatesHaveTheirStacks(t *testing.T) {
	for x := range heapStates() {
		stacks, code := impl.StacksOf(x)
		wantCode(t, "StacksOf", code, impl.ErrNone)
		if h := heapOfState(t, x); !sameLists(h.Stacks, stacks) {
			t.Errorf("the heap of %v is %v, its stacks are %v", x, h, stacks)
		}
	}
}
