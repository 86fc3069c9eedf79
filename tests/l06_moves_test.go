package tests

import (
	"fmt"
	"slices"
	"testing"

	"loop.example/g01321/impl"
)

func TestHeapMovesByHand(t *testing.T) {
	cases := []struct {
		h    impl.Heap
		want []impl.Move
	}{
		{heap(nil, nil, nil), nil},
		{onPeg(0, 0), []impl.Move{move(0, 0, 1), move(0, 0, 2)}},
		{onPeg(1, 0), []impl.Move{move(0, 1, 0), move(0, 1, 2)}},
		{onPeg(2, 0), []impl.Move{move(0, 2, 0), move(0, 2, 1)}},
		{onPeg(0, 1, 0), []impl.Move{move(0, 0, 1), move(0, 0, 2)}},
		{onPeg(0, 0, 1), []impl.Move{move(1, 0, 1), move(1, 0, 2)}},
		{heap([]int64{0, 1}, []int64{2}, nil), []impl.Move{move(1, 0, 1), move(1, 0, 2), move(2, 1, 2)}},
		{heap([]int64{2}, []int64{1}, []int64{0}), []impl.Move{move(0, 2, 0), move(0, 2, 1), move(1, 1, 0)}},
		{heap([]int64{0}, []int64{2}, []int64{1}), []impl.Move{move(0, 0, 1), move(0, 0, 2), move(1, 2, 1)}},
		{heap([]int64{1, 2}, []int64{0, 3}, nil), []impl.Move{move(2, 0, 1), move(2, 0, 2), move(3, 1, 2)}},
		{heap([]int64{2, 3}, []int64{0}, []int64{1}), []impl.Move{move(0, 1, 0), move(0, 1, 2), move(1, 2, 0)}},
		{onPeg(1, 0, 1, 2, 3), []impl.Move{move(3, 1, 0), move(3, 1, 2)}},
		{onPeg(2, 3, 2, 1, 0), []impl.Move{move(0, 2, 0), move(0, 2, 1)}},
	}
	for _, c := range cases {
		if moves, code := impl.HeapMoves(c.h); !slices.Equal(moves, c.want) || code != impl.ErrNone {
			t.Errorf("HeapMoves(%v) = %v, %d, want %v", c.h, moves, code, c.want)
		}
	}
}

func TestHeapMoves(t *testing.T) {
	for _, h := range allHeaps() {
		want := movesOfHeap(h)
		if moves, code := impl.HeapMoves(h); !slices.Equal(moves, want) || code != impl.ErrNone {
			t.Errorf("HeapMoves(%v) = %v, %d, want %v", h, moves, code, want)
		}
	}
}

// TestAfterHeapMoveByHand has discs that lie on lesser ones: they may be moved from there, and a disc
// may be put on a greater top that lies on a lesser disc.
func TestAfterHeapMoveByHand(t *testing.T) {
	cases := []struct {
		h    impl.Heap
		m    impl.Move
		want impl.Heap
	}{
		{onPeg(0, 0), move(0, 0, 2), onPeg(2, 0)},
		{onPeg(0, 1, 0), move(0, 0, 1), heap([]int64{1}, []int64{0}, nil)},
		{onPeg(0, 0, 1), move(1, 0, 1), heap([]int64{0}, []int64{1}, nil)},
		{heap([]int64{0}, []int64{1}, nil), move(0, 0, 1), onPeg(1, 1, 0)},
		{heap([]int64{0, 2}, []int64{1}, nil), move(1, 1, 0), onPeg(0, 0, 2, 1)},
		{heap([]int64{0, 1}, []int64{2, 3}, nil), move(1, 0, 1), heap([]int64{0}, []int64{2, 3, 1}, nil)},
		{heap([]int64{0, 2}, []int64{1, 3}, nil), move(3, 1, 2), heap([]int64{0, 2}, []int64{1}, []int64{3})},
		{onPeg(2, 0, 1, 2, 3), move(3, 2, 0), heap([]int64{3}, nil, []int64{0, 1, 2})},
		{heap(nil, []int64{3, 2, 1}, []int64{0}), move(0, 2, 1), onPeg(1, 3, 2, 1, 0)},
	}
	for _, c := range cases {
		after, code := impl.AfterHeapMove(c.h, c.m)
		wantHeap(t, fmt.Sprintf("AfterHeapMove(%v, %v)", c.h, c.m), after, c.want, code)
	}
}

// TestHeapMovesThatAreNotLegal has, among others, discs on lesser ones, the same peg, no top, and a
// top of another peg.
func TestHeapMovesThatAreNotLegal(t *testing.T) {
	cases := []struct {
		h impl.Heap
		m impl.Move
	}{
		{heap(nil, nil, nil), move(0, 0, 1)},
		{heap(nil, nil, nil), move(4, 0, 1)},
		{onPeg(0, 0), move(4, 1, 2)},
		{onPeg(0, 0), move(0, 0, 0)},
		{onPeg(0, 0), move(0, 1, 2)},
		{onPeg(0, 0), move(0, 0, 3)},
		{onPeg(0, 0), move(0, 3, 0)},
		{onPeg(0, 0), move(1, 0, 1)},
		{onPeg(0, 0, 1), move(0, 0, 1)},
		{onPeg(0, 1, 0), move(1, 0, 1)},
		{heap([]int64{1}, []int64{0}, nil), move(1, 0, 1)},
		{heap([]int64{2, 0}, []int64{1}, nil), move(1, 1, 0)},
		{heap([]int64{0, 1}, []int64{2}, nil), move(2, 1, 0)},
		{heap([]int64{3}, []int64{1}, []int64{2, 0}), move(0, 2, 2)},
		{heap([]int64{3}, []int64{1}, []int64{2, 0}), move(1, 1, 2)},
		{onPeg(1, 0, 1, 2, 3), move(0, 1, 0)},
	}
	for _, c := range cases {
		if after, code := impl.AfterHeapMove(c.h, c.m); len(after.Stacks) != 0 || code != impl.ErrState {
			t.Errorf("AfterHeapMove(%v, %v) = %v, %d", c.h, c.m, after, code)
		}
	}
}

// TestAfterHeapMove has all heaps, and all moves of discs in -1..5 between pegs in -1..3.
func TestAfterHeapMove(t *testing.T) {
	for _, h := range allHeaps() {
		for disc := int64(-1); disc <= 5; disc++ {
			for from := int64(-1); from <= 3; from++ {
				for to := int64(-1); to <= 3; to++ {
					checkHeapMove(t, h, move(disc, from, to))
				}
			}
		}
	}
}

// TestAfterHeapMoveOfOddNumbers has moves with one number that is never in a range.
func TestAfterHeapMoveOfOddNumbers(t *testing.T) {
	for _, h := range allHeaps() {
		for _, m := range append(movesOfHeap(h), move(0, 0, 1), move(4, 0, 1)) {
			for _, odd := range append(oddNumbers(), 256, 257, 258) {
				checkHeapMove(t, h, move(odd, m.From, m.To))
				checkHeapMove(t, h, move(m.Disc, odd, m.To))
				checkHeapMove(t, h, move(m.Disc, m.From, odd))
			}
		}
	}
}

// checkHeapMove fails if AfterHeapMove does not return the heap after a legal move, or ErrState.
func checkHeapMove(t *testing.T, h impl.Heap, m impl.Move) {
	t.Helper()
	var want impl.Heap
	wantedCode := int64(impl.ErrState)
	if legalInHeap(h, m) {
		want, wantedCode = movedInHeap(h, m), impl.ErrNone
	}
	if after, code := impl.AfterHeapMove(h, m); !sameHeap(after, want) || code != wantedCode {
		t.Fatalf("AfterHeapMove(%v, %v) = %v, %d, want %v, %d", h, m, after, code, want, wantedCode)
	}
}
