package tests

import (
	"fmt"
	"testing"

	"loop.example/g01321/impl"
)

// TestPresumedListsShareNoMemory overwrites lists of numbers, with their spare capacity, and looks at
// what another call returned, and at a further one.
func TestPresumedListsShareNoMemory(t *testing.T) {
	calls := map[string]func(p, n int64) ([]int64, int64){
		"PresumedSplits": impl.PresumedSplits,
		"PresumedParts":  impl.PresumedParts,
		"PresumedSteps":  impl.PresumedSteps,
	}
	for p := int64(3); p <= impl.MaxPegs; p++ {
		for _, n := range []int64{0, 1, 2, 3, 8, 21, 59, 60} {
			for name, call := range calls {
				checkOwnList(t, fmt.Sprintf("%s(%d, %d)", name, p, n), func() []int64 {
					list, _ := call(p, n)
					return list
				})
			}
		}
	}
}

// TestPresumedMovesShareNoMemory overwrites moves and looks at other calls.
func TestPresumedMovesShareNoMemory(t *testing.T) {
	for p, n := range listSizes() {
		checkOwnMoves(t, fmt.Sprintf("PresumedMoves(%d, %d)", p, n), func() []impl.Move {
			moves, _ := impl.PresumedMoves(p, n)
			return moves
		})
	}
}

// TestPresumedListsKeepNothing overwrites each list and looks at the numbers that the program tells
// after it.
func TestPresumedListsKeepNothing(t *testing.T) {
	numbers := presumedNumbers()
	for p, n := range presumedSizes() {
		for _, call := range []func(p, n int64) ([]int64, int64){impl.PresumedSplits, impl.PresumedParts, impl.PresumedSteps} {
			list, _ := call(p, n)
			spoil(list)
		}
		want := numbers[pegsAndDiscs{p, n}]
		if number, code := impl.PresumedNumber(p, n); number != want || code != impl.ErrNone {
			t.Errorf("PresumedNumber(%d, %d) = %d, %d after other calls, want %d", p, n, number, code, want)
		}
	}
}
