package tests

import (
	"fmt"
	"slices"
	"testing"

	"loop.example/g01321/impl"
)

// roomyMoves returns moves with spare capacity that is filled with sentinels.
func roomyMoves(moves []impl.Move) []impl.Move {
	all := slices.Concat(moves, slices.Repeat([]impl.Move{move(sentinel, sentinel, sentinel)}, 4))
	return all[:len(moves)]
}

// checkRoomyMoves fails if moves of roomyMoves, or the spare capacity behind them, are no longer as
// they were.
func checkRoomyMoves(t *testing.T, what string, moves, want []impl.Move) {
	t.Helper()
	if !slices.Equal(moves[:cap(moves)][:len(want)+4], roomyMoves(want)[:len(want)+4]) {
		t.Errorf("%s: the moves became %v, were %v", what, moves[:cap(moves)], want)
	}
}

// roomyArguments returns arguments with spare capacity behind their lists.
func roomyArguments(a ruledArguments) ruledArguments {
	a.x.Discs, a.y.Discs, a.list, a.moves = roomy(a.x.Discs...), roomy(a.y.Discs...), roomy(a.list...), roomyMoves(a.moves)
	return a
}

// memoryArguments returns arguments that are good, and others: no discs, no moves, a run that breaks
// off, rules that are not strong, and what is refused.
func memoryArguments() []ruledArguments {
	weak, none, long := goodArguments(), goodArguments(), goodArguments()
	weak.r = impl.Rules{{0, 1, 0}}
	none.x, none.y, none.n, none.moves = state(3), state(3), 0, nil
	long.r, long.n = namedRules()["linear"], impl.MaxDiscs
	long.x, long.y, long.moves = spreadState(impl.MaxDiscs), state(3, tower(2, impl.MaxDiscs)...), backAndForth(2)
	return append(otherArguments(), weak, none, long)
}

// TestArgumentsByRulesNotModified calls each function of chapter 7 that takes a list.
func TestArgumentsByRulesNotModified(t *testing.T) {
	for _, want := range memoryArguments() {
		a := roomyArguments(want)
		for _, calls := range []map[string]ruledCall{ruleCalls(), ruledTowerCalls(), ruledStateCalls()} {
			for name, call := range calls {
				call(a)
				checkRoomy(t, name, a.x.Discs, want.x.Discs...)
				checkRoomy(t, name, a.y.Discs, want.y.Discs...)
				checkRoomy(t, name, a.list, want.list...)
				checkRoomyMoves(t, name, a.moves, want.moves)
			}
		}
	}
}

// TestStatesOfRunsByRulesShareNoMemory overwrites results and arguments of RunByRules: of no moves,
// too, the state is another one in memory.
func TestStatesOfRunsByRulesShareNoMemory(t *testing.T) {
	for n := range int64(impl.MaxDiscs + 1) {
		for _, count := range []int{0, 1, 2, 7} {
			r, x := namedRules()["near"], spreadState(n)
			moves, states := longRun(r, x, count)
			want := states[len(moves)]
			given := impl.State{Pegs: 3, Discs: roomy(x.Discs...)}
			first, _ := impl.RunByRules(r, given, moves)
			second, _ := impl.RunByRules(r, given, moves)
			spoil(first.Discs)
			checkRoomy(t, "a result of RunByRules", given.Discs, x.Discs...)
			spoil(given.Discs)
			if !sameState(second, want) {
				t.Errorf("RunByRules(.., %v, %d moves) = %v, want %v", x, len(moves), second, want)
			}
		}
	}
}

// TestRowsShareNoMemory overwrites each row of a table, with its spare capacity, and looks at the
// other rows and at a further call.
func TestRowsShareNoMemory(t *testing.T) {
	for n := range int64(impl.MaxDiscs + 1) {
		clean, code := impl.TableByRules(namedRules()["plus"], n)
		wantCode(t, "TableByRules", code, impl.ErrNone)
		for i := range clean {
			rows, _ := impl.TableByRules(namedRules()["plus"], n)
			spoil(rows[i])
			for j := range rows {
				if j != i && !slices.Equal(rows[j], clean[j]) {
					t.Errorf("TableByRules of %d: the rows %d and %d share memory", n, i, j)
				}
			}
		}
		if again, _ := impl.TableByRules(namedRules()["plus"], n); !sameLists(again, clean) {
			t.Errorf("TableByRules of %d: %v, and once more %v", n, clean, again)
		}
	}
}

// TestMovesByRulesShareNoMemory overwrites moves, with their spare capacity, and looks at other calls.
func TestMovesByRulesShareNoMemory(t *testing.T) {
	for _, a := range memoryArguments() {
		calls := map[string]func() []impl.Move{
			"MovesByRules": func() []impl.Move { moves, _ := impl.MovesByRules(a.r, a.x); return moves },
			"LeastByRules": func() []impl.Move { moves, _ := impl.LeastByRules(a.r, a.n, a.i, a.j); return moves },
		}
		for name, call := range calls {
			checkOwnMoves(t, fmt.Sprintf("%s of %v", name, a), call)
		}
	}
}

// TestRulesNotKept changes rules that were returned, and rules and lists that were given.
func TestRulesNotKept(t *testing.T) {
	for name, want := range namedRules() {
		r, _ := impl.NamedRules(name)
		r[0][1] = 7
		if again, code := impl.NamedRules(name); again != want || code != impl.ErrNone {
			t.Errorf("NamedRules(%q) = %v, %d, want %v", name, again, code, want)
		}
		list := []int64{2, 0, 1}
		renamed, _ := impl.RenameRules(want, list)
		spoil(list)
		if again, _ := impl.RenameRules(want, []int64{2, 0, 1}); again != renamed {
			t.Errorf("RenameRules of %s = %v, and once more %v", name, renamed, again)
		}
	}
}
