package tests

import (
	"iter"
	"slices"
	"testing"

	"loop.example/g01321/impl"
)

// Promise 14: regular heaps have the distances of their states, and presumed lists lead towers to the
// last peg.

// heapStates ranges over all states of three pegs and at most MaxHeap discs.
func heapStates() iter.Seq[impl.State] {
	return func(yield func(impl.State) bool) {
		for n := range int64(impl.MaxHeap + 1) {
			for _, x := range statesOf(3, n) {
				if !yield(x) {
					return
				}
			}
		}
	}
}

// heapOfState returns the heap of a state, which has to have one.
func heapOfState(t *testing.T, x impl.State) impl.Heap {
	t.Helper()
	h, code := impl.HeapOf(x)
	wantCode(t, "HeapOf", code, impl.ErrNone)
	return h
}

func TestPromise14RegularHeapsHaveTheDistancesOfTheirStates(t *testing.T) {
	for x := range heapStates() {
		h := heapOfState(t, x)
		for peg := range int64(3) {
			distance, code := impl.DistanceToPeg(x, peg)
			wantCode(t, "DistanceToPeg", code, impl.ErrNone)
			if ofHeap, code := impl.HeapDistance(h, peg); ofHeap != distance || code != impl.ErrNone {
				t.Errorf("the distance of %v and %d is %d, that of its heap %d, %d", x, peg, distance, ofHeap, code)
			}
		}
	}
}

// TestPromise14RegularHeapsHaveTheWaysOfTheirStates holds since there is just one way.
func TestPromise14RegularHeapsHaveTheWaysOfTheirStates(t *testing.T) {
	for x := range heapStates() {
		h := heapOfState(t, x)
		for peg := range int64(3) {
			way, code := impl.WayToPeg(x, peg)
			wantCode(t, "WayToPeg", code, impl.ErrNone)
			if ofHeap, code := impl.HeapWay(h, peg); !slices.Equal(ofHeap, way) || code != impl.ErrNone {
				t.Errorf("the way from %v to %d is %v, that of its heap %v, %d", x, peg, way, ofHeap, code)
			}
		}
	}
}

func TestPromise14RegularHeapsLeadBackToStates(t *testing.T) {
	for x := range heapStates() {
		h := heapOfState(t, x)
		if regular, code := impl.IsRegularHeap(h); !regular || code != impl.ErrNone {
			t.Errorf("the heap %v of %v is regular: %v, %d", h, x, regular, code)
		}
		if back, code := impl.StateOfHeap(h); !sameState(back, x) || code != impl.ErrNone {
			t.Errorf("the heap %v of %v leads back to %v, %d", h, x, back, code)
		}
	}
	for _, h := range allHeaps() {
		x, code := impl.StateOfHeap(h)
		if code != impl.ErrNone {
			continue
		}
		if back := heapOfState(t, x); !sameHeap(back, h) {
			t.Errorf("the state %v of %v leads back to %v", x, h, back)
		}
	}
}

func TestPromise14RegularHeapsHaveTheMovesOfTheirStates(t *testing.T) {
	for x := range heapStates() {
		h := heapOfState(t, x)
		moves, code := impl.LegalMoves(x)
		wantCode(t, "LegalMoves", code, impl.ErrNone)
		if ofHeap, code := impl.HeapMoves(h); !slices.Equal(ofHeap, moves) || code != impl.ErrNone {
			t.Errorf("the moves of %v are %v, those of its heap %v, %d", x, moves, ofHeap, code)
		}
		for _, m := range moves {
			y, code := impl.AfterMove(x, m)
			wantCode(t, "AfterMove", code, impl.ErrNone)
			after, code := impl.AfterHeapMove(h, m)
			wantHeap(t, "AfterHeapMove", after, heapOfState(t, y), code)
		}
	}
}

// TestPromise14HeapsOfStatesHaveTheirStacks has the Stacks of chapter 1.
func TestPromise14HeapsOfStatesHaveTheirStacks(t *testing.T) {
	for x := range heapStates() {
		stacks, code := impl.StacksOf(x)
		wantCode(t, "StacksOf", code, impl.ErrNone)
		if h := heapOfState(t, x); !sameLists(h.Stacks, stacks) {
			t.Errorf("the heap of %v is %v, its stacks are %v", x, h, stacks)
		}
	}
}

// presumedList returns the presumed list of p and n.
func presumedList(t *testing.T, p, n int64) []impl.Move {
	t.Helper()
	moves, code := impl.PresumedMoves(p, n)
	wantCode(t, "PresumedMoves", code, impl.ErrNone)
	return moves
}

// TestPromise14PresumedListsLeadTowersToTheLastPeg has all towers that have states of chapter 1.
func TestPromise14PresumedListsLeadTowersToTheLastPeg(t *testing.T) {
	for p, n := range shapes() {
		first, code := impl.PerfectState(p, n, 0)
		wantCode(t, "PerfectState", code, impl.ErrNone)
		last, code := impl.PerfectState(p, n, p-1)
		wantCode(t, "PerfectState", code, impl.ErrNone)
		if y, code := impl.RunMoves(first, presumedList(t, p, n)); !sameState(y, last) || code != impl.ErrNone {
			t.Errorf("the presumed list of %d and %d leads to %v, %d, not to %v", p, n, y, code, last)
		}
	}
}

// TestPromise14PresumedListsLeadGreaterTowersToTheLastPeg has towers of too many discs for a state, too.
// Of each tower it moves some discs alone, which are few enough: the moves that are left are legal
// without the other discs.
func TestPromise14PresumedListsLeadGreaterTowersToTheLastPeg(t *testing.T) {
	for p, n := range listSizes() {
		most := min(n, greatestTowers()[p])
		for least := range n - most + 1 {
			var part []impl.Move
			for _, m := range presumedList(t, p, n) {
				if m.Disc >= least && m.Disc < least+most {
					part = append(part, move(m.Disc-least, m.From, m.To))
				}
			}
			first, last := state(p, tower(0, most)...), state(p, tower(p-1, most)...)
			if y, code := impl.RunMoves(first, part); !sameState(y, last) || code != impl.ErrNone {
				t.Errorf("the presumed list of %d and %d leads the discs from %d on to %v, %d", p, n, least, y, code)
			}
		}
	}
}

func TestPromise14PresumedListsHaveAsManyMovesAsTold(t *testing.T) {
	for p, n := range listSizes() {
		if moves, number := presumedList(t, p, n), presumedNumber(t, p, n); int64(len(moves)) != number {
			t.Errorf("the presumed list of %d and %d has %d moves, not %d", p, n, len(moves), number)
		}
	}
}

// TestPromise14PresumedListsOfThreePegsAreWays holds since there is just one shortest way.
func TestPromise14PresumedListsOfThreePegsAreWays(t *testing.T) {
	for n := range int64(impl.MaxDiscs + 1) {
		way, code := impl.WayToPeg(perfectOf(t, n, 0), 2)
		wantCode(t, "WayToPeg", code, impl.ErrNone)
		if moves := presumedList(t, 3, n); !slices.Equal(moves, way) {
			t.Errorf("the presumed list of 3 and %d is %v, the way to the last peg is %v", n, moves, way)
		}
	}
}
