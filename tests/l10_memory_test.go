package tests

import (
	"fmt"
	"testing"

	"loop.example/g01321/impl"
)

// TestStatesOfTimeOfNotModified has states that are at a time, at none, and ones that are refused.
func TestStatesOfTimeOfNotModified(t *testing.T) {
	states := append(otherPegs(), state(3, 2, 0), state(3, 0, 3), state(3, tower(0, 9)...))
	for n := range int64(impl.MaxDiscs + 1) {
		states = append(states, statesOfTimes(n)...)
	}
	for _, want := range states {
		x := impl.State{Pegs: want.Pegs, Discs: roomy(want.Discs...)}
		impl.TimeOf(x)
		checkRoomy(t, "TimeOf", x.Discs, want.Discs...)
	}
}

func TestStatesAtTimesShareNoMemory(t *testing.T) {
	for n := range int64(impl.MaxDiscs + 1) {
		for time := range int64(1) << n {
			checkOwnList(t, fmt.Sprintf("StateAt(%d, %d)", time, n), func() []int64 {
				x, _ := impl.StateAt(time, n)
				return x.Discs
			})
		}
	}
}

func TestLetterCountsShareNoMemory(t *testing.T) {
	for _, time := range []int64{0, 1, 7, 10000, 10001} {
		checkOwnList(t, fmt.Sprintf("LetterCounts(%d)", time), func() []int64 {
			counts, _ := impl.LetterCounts(time)
			return counts
		})
	}
}

func TestMovesByTurnsShareNoMemory(t *testing.T) {
	for n := range int64(impl.MaxDiscs + 2) {
		checkOwnMoves(t, fmt.Sprintf("MovesByTurns(%d)", n), func() []impl.Move {
			moves, _ := impl.MovesByTurns(n)
			return moves
		})
	}
}

// TestLetterCountsAreTheSameAtEveryRun has goroutines that run one after the other, and at the same
// time.
func TestLetterCountsAreTheSameAtEveryRun(t *testing.T) {
	for _, time := range []int64{0, 1, 2, 15, 1000, 9999, 10000} {
		checkSameAtEveryRun(t, fmt.Sprintf("LetterCounts(%d)", time), func() [6]int64 {
			counts, _ := impl.LetterCounts(time)
			return [6]int64(counts)
		})
	}
}

func TestLetterCountsEnd(t *testing.T) {
	checkGoroutinesEnd(t, func() {
		for range 100 {
			for _, time := range []int64{0, 1, 100, 10000, 10001} {
				impl.LetterCounts(time)
			}
		}
	})
}
