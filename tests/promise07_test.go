package tests

import (
	"slices"
	"testing"

	"loop.example/g01321/impl"
)

// Promise 7, and the guarantee of chapter 7; what it tells of searches is tested with promise 16.

// tableByRules returns a table by rules that have to be strong.
func tableByRules(t *testing.T, r impl.Rules, n int64) [][]int64 {
	t.Helper()
	rows, code := impl.TableByRules(r, n)
	wantCode(t, "TableByRules", code, impl.ErrNone)
	return rows
}

// turnedRules returns turned rules.
func turnedRules(t *testing.T, r impl.Rules) impl.Rules {
	t.Helper()
	turned, code := impl.TurnRules(r)
	wantCode(t, "TurnRules", code, impl.ErrNone)
	return turned
}

// renamedRules returns renamed rules.
func renamedRules(t *testing.T, r impl.Rules, list []int64) impl.Rules {
	t.Helper()
	renamed, code := impl.RenameRules(r, list)
	wantCode(t, "RenameRules", code, impl.ErrNone)
	return renamed
}

// perfectOf returns the perfect state of n discs on a peg of three.
func perfectOf(t *testing.T, n, peg int64) impl.State {
	t.Helper()
	x, code := impl.PerfectState(3, n, peg)
	wantCode(t, "PerfectState", code, impl.ErrNone)
	return x
}

func TestPromise7TurnedRulesHaveTurnedTables(t *testing.T) {
	for _, r := range strongRules() {
		turned := turnedRules(t, r)
		for n := range int64(impl.MaxDiscs + 1) {
			rows, other := tableByRules(t, r, n), tableByRules(t, turned, n)
			for i := range rows {
				for j := range rows[i] {
					if rows[i][j] != other[j][i] {
						t.Errorf("the table of %v and %d has %d at %d, %d, that of the turned rules %d at %d, %d", r, n, rows[i][j], i, j, other[j][i], j, i)
					}
				}
			}
		}
	}
}

func TestPromise7TurnedRulesLeadBack(t *testing.T) {
	for _, r := range allRules() {
		turned := turnedRules(t, r)
		if back := turnedRules(t, turned); back != r || !impl.IsRules(turned) {
			t.Errorf("%v turned is %v, and turned once more %v", r, turned, back)
		}
		strong, code := impl.AreStrong(r)
		wantCode(t, "AreStrong", code, impl.ErrNone)
		if turnedStrong, code := impl.AreStrong(turned); turnedStrong != strong || code != impl.ErrNone {
			t.Errorf("%v are strong: %v, turned: %v, %d", r, strong, turnedStrong, code)
		}
	}
}

func TestPromise7RenamedRulesHaveRenamedTables(t *testing.T) {
	for _, r := range strongRules() {
		for _, list := range permutations(3) {
			renamed := renamedRules(t, r, list)
			for n := range int64(impl.MaxDiscs + 1) {
				rows, other := tableByRules(t, r, n), tableByRules(t, renamed, n)
				for i := range rows {
					for j := range rows[i] {
						if rows[i][j] != other[list[i]][list[j]] {
							t.Errorf("the table of %v and %d has %d at %d, %d, renamed by %v %d", r, n, rows[i][j], i, j, list, other[list[i]][list[j]])
						}
					}
				}
			}
		}
	}
}

// TestPromise7RenamedStatesHaveRenamedMoves has the states and pegs of chapter 1.
func TestPromise7RenamedStatesHaveRenamedMoves(t *testing.T) {
	for n := range int64(4) {
		for _, x := range statesOf(3, n) {
			for _, list := range permutations(3) {
				y, code := impl.RenamePegs(x, list)
				wantCode(t, "RenamePegs", code, impl.ErrNone)
				for _, r := range allRules() {
					checkRenamedMoves(t, r, x, y, list)
				}
			}
		}
	}
}

// checkRenamedMoves fails if the moves by renamed rules in a renamed state are not the renamed moves.
func checkRenamedMoves(t *testing.T, r impl.Rules, x, y impl.State, list []int64) {
	t.Helper()
	moves, code := impl.MovesByRules(r, x)
	wantCode(t, "MovesByRules", code, impl.ErrNone)
	other, code := impl.MovesByRules(renamedRules(t, r, list), y)
	wantCode(t, "MovesByRules", code, impl.ErrNone)
	for _, m := range moves {
		if !slices.Contains(other, move(m.Disc, list[m.From], list[m.To])) {
			t.Errorf("%v has the moves %v by %v, renamed by %v %v", x, moves, r, list, other)
		}
	}
	if len(other) != len(moves) {
		t.Errorf("%v has the moves %v by %v, renamed by %v %v", x, moves, r, list, other)
	}
}

// TestPromise7LeastMovesLeadFromPerfectStateToPerfectState has as many moves as the numbers tell; each
// of them is legal in chapter 1, too.
func TestPromise7LeastMovesLeadFromPerfectStateToPerfectState(t *testing.T) {
	for _, r := range strongRules() {
		for n := range int64(impl.MaxDiscs + 1) {
			for _, pair := range pegPairs() {
				moves, code := impl.LeastByRules(r, n, pair[0], pair[1])
				wantCode(t, "LeastByRules", code, impl.ErrNone)
				x, y := perfectOf(t, n, pair[0]), perfectOf(t, n, pair[1])
				checkRun(t, r, x, moves, y, impl.ErrNone)
				if last, code := impl.RunMoves(x, moves); !sameState(last, y) || code != impl.ErrNone {
					t.Errorf("by %v, the least moves from %v to %v lead to %v, %d", r, x, y, last, code)
				}
				number, code := impl.NumberByRules(r, n, pair[0], pair[1])
				wantCode(t, "NumberByRules", code, impl.ErrNone)
				if int64(len(moves)) != number || tableByRules(t, r, n)[pair[0]][pair[1]] != number {
					t.Errorf("by %v, from %v to %v there are %d least moves, the number is %d", r, x, y, len(moves), number)
				}
			}
		}
	}
}

func TestPromise7TablesHaveNothingAtEqualPegs(t *testing.T) {
	for _, r := range strongRules() {
		for n := range int64(impl.MaxDiscs + 1) {
			rows := tableByRules(t, r, n)
			for i := range rows {
				if rows[i][i] != 0 || len(rows) != 3 || len(rows[i]) != 3 {
					t.Errorf("TableByRules(%v, %d) = %v", r, n, rows)
				}
			}
		}
	}
}

// TestPromise7StrongRulesReachAllStates has all states of at most four discs, and perfect ones of
// more; by other rules some state is not reached.
func TestPromise7StrongRulesReachAllStates(t *testing.T) {
	for _, r := range allRules() {
		strong, code := impl.AreStrong(r)
		wantCode(t, "AreStrong", code, impl.ErrNone)
		for n := range int64(impl.MaxDiscs + 1) {
			states, code := impl.CountStates(3, n)
			wantCode(t, "CountStates", code, impl.ErrNone)
			all := true
			for rank, x := range statesOf(3, n) {
				if n > 4 && rank%((states-1)/2) != 0 {
					continue
				}
				count, code := impl.CountReached(r, x)
				wantCode(t, "CountReached", code, impl.ErrNone)
				all = all && count == states
			}
			if all != (strong || n == 0) {
				t.Errorf("of %d discs, %v reach all states: %v, they are strong: %v", n, r, all, strong)
			}
		}
	}
}

// TestPromise7MovesByRulesAreRuns has each move, which leads to a state that is one move away.
func TestPromise7MovesByRulesAreRuns(t *testing.T) {
	for n := range int64(5) {
		for _, x := range statesOf(3, n) {
			for _, r := range allRules() {
				moves, code := impl.MovesByRules(r, x)
				wantCode(t, "MovesByRules", code, impl.ErrNone)
				for _, m := range moves {
					y, code := impl.AfterMove(x, m)
					wantCode(t, "AfterMove", code, impl.ErrNone)
					checkRun(t, r, x, []impl.Move{m}, y, impl.ErrNone)
				}
			}
		}
	}
}
