package tests

import (
	"testing"

	"loop.example/g01321/impl"
)

// presumedCalls returns the functions of chapter 8 that take any number of pegs and of discs.
func presumedCalls() map[string]shapeCall {
	return map[string]shapeCall{
		"PresumedNumber": func(p, n int64) (bool, int64) { v, c := impl.PresumedNumber(p, n); return v == 0, c },
		"PresumedSplits": func(p, n int64) (bool, int64) { v, c := impl.PresumedSplits(p, n); return len(v) == 0, c },
		"PresumedParts":  func(p, n int64) (bool, int64) { v, c := impl.PresumedParts(p, n); return len(v) == 0, c },
		"PresumedSteps":  func(p, n int64) (bool, int64) { v, c := impl.PresumedSteps(p, n); return len(v) == 0, c },
		"FormulaNumber":  func(p, n int64) (bool, int64) { v, c := impl.FormulaNumber(p, n); return v == 0, c },
	}
}

// towerWithinCall calls TowerWithin.
func towerWithinCall(p, m int64) (bool, int64) {
	v, c := impl.TowerWithin(p, m)
	return v == 0, c
}

// presumedMovesCall calls PresumedMoves.
func presumedMovesCall(p, n int64) (bool, int64) {
	v, c := impl.PresumedMoves(p, n)
	return len(v) == 0, c
}

// checkPresumedError fails if a call does not return an error and zero values.
func checkPresumedError(t *testing.T, name string, call shapeCall, p, n, want int64) {
	t.Helper()
	if zero, code := call(p, n); !zero || code != want {
		t.Errorf("%s(%d, %d): code %d, want %d, other results zero: %v", name, p, n, code, want, zero)
	}
}

// TestPresumedNumbersOutOfRange has three pegs, no disc and one, too: in PresumedSplits ErrRange comes
// before ErrState.
func TestPresumedNumbersOutOfRange(t *testing.T) {
	for name, call := range presumedCalls() {
		for _, p := range noPresumedPegs() {
			for _, n := range append(noPresumedDiscs(), 0, 1, 2, 8, 60) {
				checkPresumedError(t, name, call, p, n, impl.ErrRange)
			}
		}
		for p := int64(3); p <= impl.MaxPegs; p++ {
			for _, n := range noPresumedDiscs() {
				checkPresumedError(t, name, call, p, n, impl.ErrRange)
			}
		}
	}
}

// TestNoSplits has three pegs, and no disc or one.
func TestNoSplits(t *testing.T) {
	call := presumedCalls()["PresumedSplits"]
	for p, n := range presumedSizes() {
		if p == 3 || n < 2 {
			checkPresumedError(t, "PresumedSplits", call, p, n, impl.ErrState)
		}
	}
}

// TestTowerWithinOutOfRange has numbers of moves that are not negative with pegs out of range, and
// negative ones with all pegs.
func TestTowerWithinOutOfRange(t *testing.T) {
	for _, p := range noPresumedPegs() {
		for _, m := range append(oddNumbers(), 0, 1, 2, 7, 33, 60, 61) {
			checkPresumedError(t, "TowerWithin", towerWithinCall, p, m, impl.ErrRange)
		}
	}
	for p := int64(3); p <= impl.MaxPegs; p++ {
		for _, m := range oddNumbers() {
			if m < 0 {
				checkPresumedError(t, "TowerWithin", towerWithinCall, p, m, impl.ErrRange)
			}
		}
	}
}

// TestPresumedMovesOutOfRange has all numbers of pegs and discs that have presumed numbers and no
// presumed lists, and those that have neither.
func TestPresumedMovesOutOfRange(t *testing.T) {
	for p, n := range presumedSizes() {
		if p > 5 || n > 8 {
			checkPresumedError(t, "PresumedMoves", presumedMovesCall, p, n, impl.ErrRange)
		}
	}
	for _, p := range noPresumedPegs() {
		for _, n := range append(noPresumedDiscs(), 0, 1, 2, 8, 9) {
			checkPresumedError(t, "PresumedMoves", presumedMovesCall, p, n, impl.ErrRange)
		}
	}
	for p := int64(3); p <= impl.MaxPegs; p++ {
		for _, n := range noPresumedDiscs() {
			checkPresumedError(t, "PresumedMoves", presumedMovesCall, p, n, impl.ErrRange)
		}
	}
}

// TestPresumedWithoutErrors has all numbers in their ranges.
func TestPresumedWithoutErrors(t *testing.T) {
	for p, n := range presumedSizes() {
		for name, call := range presumedCalls() {
			if name == "PresumedSplits" && (p == 3 || n < 2) {
				continue
			}
			_, code := call(p, n)
			wantCode(t, name, code, impl.ErrNone)
		}
		_, code := towerWithinCall(p, n)
		wantCode(t, "TowerWithin", code, impl.ErrNone)
	}
	for p, n := range listSizes() {
		_, code := presumedMovesCall(p, n)
		wantCode(t, "PresumedMoves", code, impl.ErrNone)
	}
}
