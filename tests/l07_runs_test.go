package tests

import (
	"slices"
	"testing"

	"loop.example/g01321/impl"
)

// checkRun fails if RunByRules does not return a state and a code.
func checkRun(t *testing.T, r impl.Rules, x impl.State, moves []impl.Move, want impl.State, wantedCode int64) {
	t.Helper()
	if y, code := impl.RunByRules(r, x, moves); !sameState(y, want) || code != wantedCode {
		t.Fatalf("RunByRules(%v, %v, %d moves) = %v, %d, want %v, %d", r, x, len(moves), y, code, want, wantedCode)
	}
}

// longRun returns at most so many moves by rules, one after the other, with now one and now another
// place among the legal ones, and the states of their run.
func longRun(r impl.Rules, x impl.State, most int) ([]impl.Move, []impl.State) {
	moves, states := []impl.Move{}, []impl.State{x}
	for len(moves) < most {
		next := movesOfRules(r, x)
		if len(next) == 0 {
			break
		}
		m := next[(3*len(moves)+len(moves)/4)%len(next)]
		x = moved(x, m)
		moves, states = append(moves, m), append(states, x)
	}
	return moves, states
}

// spreadState returns the state of n discs on three pegs in which the discs are on 0, 1, 2, 0, ..
func spreadState(n int64) impl.State {
	x := state(3, upTo(n)...)
	for d := range x.Discs {
		x.Discs[d] %= 3
	}
	return x
}

// TestRunByRules has each beginning of runs by all rules.
func TestRunByRules(t *testing.T) {
	for _, r := range allRules() {
		for n := range int64(impl.MaxDiscs + 1) {
			for _, x := range []impl.State{state(3, tower(0, n)...), state(3, tower(2, n)...), spreadState(n)} {
				moves, states := longRun(r, x, 40)
				for end, want := range states {
					checkRun(t, r, x, moves[:end], want, impl.ErrNone)
				}
			}
		}
	}
}

// TestRunsOfNoMoves has all states, by rules of no directions, too.
func TestRunsOfNoMoves(t *testing.T) {
	for x := range threePegStates() {
		for _, r := range []impl.Rules{{}, namedRules()["cyclic"], namedRules()["all"]} {
			checkRun(t, r, x, nil, x, impl.ErrNone)
			checkRun(t, r, x, []impl.Move{}, x, impl.ErrNone)
		}
	}
}

// TestRunsOfOneMove has all moves of discs in -1..8 between pegs in -1..5, and others.
func TestRunsOfOneMove(t *testing.T) {
	moves := someMoves()
	for n := range int64(4) {
		for _, x := range statesOf(3, n) {
			for _, r := range allRules() {
				for _, m := range moves {
					if legalByRules(r, x, m) {
						checkRun(t, r, x, []impl.Move{m}, moved(x, m), impl.ErrNone)
					} else {
						checkRun(t, r, x, []impl.Move{m}, impl.State{}, impl.ErrState)
					}
				}
			}
		}
	}
}

// TestRunsThatBreakOff has a move that is not legal, or not legal by the rules, at each place of a
// run.
func TestRunsThatBreakOff(t *testing.T) {
	for name, r := range namedRules() {
		x := state(3, 0, 1, 2, 0)
		moves, states := longRun(r, x, 20)
		for place, at := range states {
			for _, m := range someMoves() {
				if legalByRules(r, at, m) {
					continue
				}
				broken := slices.Insert(slices.Clone(moves), place, m)
				if y, code := impl.RunByRules(r, x, broken); !isZeroState(y) || code != impl.ErrState {
					t.Fatalf("by %s, RunByRules(.., %v) = %v, %d", name, broken, y, code)
				}
			}
		}
	}
}

// TestMovesLegalOnlyByOtherRules has moves that are legal, but in directions that are not allowed.
func TestMovesLegalOnlyByOtherRules(t *testing.T) {
	checkRun(t, namedRules()["cyclic"], state(3, 0, 0), wayOfTexts("0:0>2"), impl.State{}, impl.ErrState)
	checkRun(t, namedRules()["cyclic"], state(3, 0, 0), wayOfTexts("0:0>1", "0:1>0"), impl.State{}, impl.ErrState)
	checkRun(t, namedRules()["cyclic"], state(3, 0, 0), wayOfTexts("0:0>1", "0:1>2", "1:0>1"), state(3, 2, 1), impl.ErrNone)
	checkRun(t, namedRules()["linear"], state(3, 2, 0), wayOfTexts("1:0>1", "0:2>0"), impl.State{}, impl.ErrState)
	checkRun(t, namedRules()["linear"], state(3, 2, 0), wayOfTexts("1:0>1", "0:2>1"), state(3, 1, 1), impl.ErrNone)
	checkRun(t, namedRules()["near"], state(3, 0), wayOfTexts("0:0>2"), impl.State{}, impl.ErrState)
	checkRun(t, namedRules()["near"], state(3, 2), wayOfTexts("0:2>0"), state(3, 0), impl.ErrNone)
	checkRun(t, namedRules()["plus"], state(3, 2), wayOfTexts("0:2>1"), impl.State{}, impl.ErrState)
	checkRun(t, impl.Rules{}, state(3, 1), wayOfTexts("0:1>0"), impl.State{}, impl.ErrState)
}

// backAndForth returns moves of the disc 0 between the pegs 0 and 1.
func backAndForth(count int) []impl.Move {
	var moves []impl.Move
	for i := range int64(count) {
		moves = append(moves, move(0, i%2, 1-i%2))
	}
	return moves
}

// TestLongRunsByRules has runs of just MaxStates moves, and of one more: ErrRange comes before ErrState.
func TestLongRunsByRules(t *testing.T) {
	r, x := namedRules()["linear"], state(3, 0, 0, 1)
	checkRun(t, r, x, backAndForth(impl.MaxStates-1), x, impl.ErrNone)
	checkRun(t, r, x, backAndForth(impl.MaxStates), state(3, 1, 0, 1), impl.ErrNone)
	checkRun(t, r, x, backAndForth(impl.MaxStates+1), impl.State{}, impl.ErrRange)
	checkRun(t, r, x, backAndForth(2*impl.MaxStates), impl.State{}, impl.ErrRange)
	illegal := backAndForth(impl.MaxStates + 1)
	illegal[0] = move(0, 2, 1)
	checkRun(t, r, x, illegal, impl.State{}, impl.ErrRange)
	checkRun(t, r, x, illegal[:impl.MaxStates], impl.State{}, impl.ErrState)
	last := backAndForth(impl.MaxStates)
	last[len(last)-1] = move(1, 0, 1)
	checkRun(t, r, x, last, impl.State{}, impl.ErrState)
	checkRun(t, impl.Rules{}, x, backAndForth(impl.MaxStates+1), impl.State{}, impl.ErrRange)
	checkRun(t, r, state(3), make([]impl.Move, impl.MaxStates+1), impl.State{}, impl.ErrRange)
	checkRun(t, r, state(3), make([]impl.Move, impl.MaxStates), impl.State{}, impl.ErrState)
}
