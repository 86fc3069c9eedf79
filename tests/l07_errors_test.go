package tests

import (
	"testing"

	"loop.example/g01321/impl"
)

// ruledArguments has what the functions of chapter 7 take; each of them leaves out what it does not
// take.
type ruledArguments struct {
	r       impl.Rules
	x, y    impl.State
	n, i, j int64
	list    []int64
	moves   []impl.Move
}

// ruledCall calls a function of chapter 7, and reports whether all results but the code are zero.
type ruledCall func(a ruledArguments) (bool, int64)

// ruleCalls returns the functions of chapter 7 that take rules, or rules and a list.
func ruleCalls() map[string]ruledCall {
	return map[string]ruledCall{
		"AreStrong": func(a ruledArguments) (bool, int64) {
			v, c := impl.AreStrong(a.r)
			return !v, c
		},
		"TurnRules": func(a ruledArguments) (bool, int64) {
			v, c := impl.TurnRules(a.r)
			return v == impl.Rules{}, c
		},
		"RenameRules": func(a ruledArguments) (bool, int64) {
			v, c := impl.RenameRules(a.r, a.list)
			return v == impl.Rules{}, c
		},
	}
}

// ruledTowerCalls returns the functions of chapter 7 that take rules that have to be strong.
func ruledTowerCalls() map[string]ruledCall {
	return map[string]ruledCall{
		"NumberByRules": func(a ruledArguments) (bool, int64) {
			v, c := impl.NumberByRules(a.r, a.n, a.i, a.j)
			return v == 0, c
		},
		"TableByRules": func(a ruledArguments) (bool, int64) {
			v, c := impl.TableByRules(a.r, a.n)
			return len(v) == 0, c
		},
		"LeastByRules": func(a ruledArguments) (bool, int64) {
			v, c := impl.LeastByRules(a.r, a.n, a.i, a.j)
			return len(v) == 0, c
		},
	}
}

// ruledStateCalls returns the functions of chapter 7 that take rules and a state.
func ruledStateCalls() map[string]ruledCall {
	return map[string]ruledCall{
		"MovesByRules": func(a ruledArguments) (bool, int64) {
			v, c := impl.MovesByRules(a.r, a.x)
			return len(v) == 0, c
		},
		"SearchByRules": searchByRulesCall,
		"CountReached": func(a ruledArguments) (bool, int64) {
			v, c := impl.CountReached(a.r, a.x)
			return v == 0, c
		},
		"RunByRules": func(a ruledArguments) (bool, int64) {
			v, c := impl.RunByRules(a.r, a.x, a.moves)
			return isZeroState(v), c
		},
	}
}

// searchByRulesCall calls SearchByRules.
func searchByRulesCall(a ruledArguments) (bool, int64) {
	v, c := impl.SearchByRules(a.r, a.x, a.y)
	return v == 0, c
}

// checkRuledError fails if a call does not return an error and zero values.
func checkRuledError(t *testing.T, name string, call ruledCall, a ruledArguments, want int64) {
	t.Helper()
	if zero, code := call(a); !zero || code != want {
		t.Errorf("%s of %v: code %d, want %d, other results zero: %v", name, a, code, want, zero)
	}
}

// goodArguments returns arguments with which no function of chapter 7 fails.
func goodArguments() ruledArguments {
	return ruledArguments{
		r: namedRules()["cyclic"], x: state(3, 0, 0), y: state(3, 1, 1), n: 3, i: 0, j: 2,
		list: []int64{1, 2, 0}, moves: wayOfTexts("0:0>1", "0:1>2", "1:0>1"),
	}
}

// otherArguments returns good arguments, and others of which one is refused by some function.
func otherArguments() []ruledArguments {
	all := make([]ruledArguments, 11)
	for place := range all {
		all[place] = goodArguments()
	}
	all[1].n = 9
	all[2].i = -1
	all[3].j = 3
	all[4].j = all[4].i
	all[5].list = []int64{0, 1, 1}
	all[6].x = state(3, 0)
	all[7].y = state(4, 0, 0)
	all[8].moves = backAndForth(impl.MaxStates + 1)
	all[9].moves = wayOfTexts("0:0>2")
	all[10].x = state(2, 0, 0)
	return all
}

func TestGoodArguments(t *testing.T) {
	for _, calls := range []map[string]ruledCall{ruleCalls(), ruledTowerCalls(), ruledStateCalls()} {
		for name, call := range calls {
			if zero, code := call(goodArguments()); zero || code != impl.ErrNone {
				t.Errorf("%s: zero: %v, code %d", name, zero, code)
			}
		}
	}
}

// TestNoRules has other arguments that are refused, too: ErrInvalid comes before the other errors.
func TestNoRules(t *testing.T) {
	for _, a := range otherArguments() {
		for _, r := range noRules() {
			a.r = r
			for _, calls := range []map[string]ruledCall{ruleCalls(), ruledTowerCalls(), ruledStateCalls()} {
				for name, call := range calls {
					checkRuledError(t, name, call, a, impl.ErrInvalid)
				}
			}
		}
	}
}

// TestNoStatesByRules has what is no state, and states of four and five pegs, by rules with and
// without directions, with as many discs and with others, and with moves that are too many.
func TestNoStatesByRules(t *testing.T) {
	bad := otherPegs()
	for _, x := range noStates() {
		bad = append(bad, x)
	}
	for _, r := range []impl.Rules{{}, namedRules()["linear"]} {
		for _, moves := range [][]impl.Move{nil, wayOfTexts("0:0>0"), make([]impl.Move, impl.MaxStates+1)} {
			for _, x := range bad {
				for name, call := range ruledStateCalls() {
					checkRuledError(t, name, call, ruledArguments{r: r, x: x, y: state(3, 0), moves: moves}, impl.ErrInvalid)
					checkRuledError(t, name, call, ruledArguments{r: r, x: x, y: x, moves: moves}, impl.ErrInvalid)
				}
				for _, good := range []impl.State{state(3), state(3, 0), state(3, 2, 1, 0), state(3, make([]int64, min(len(x.Discs), 8))...)} {
					checkRuledError(t, "SearchByRules", searchByRulesCall, ruledArguments{r: r, x: good, y: x}, impl.ErrInvalid)
				}
			}
		}
	}
}

// TestOtherNumbersOfDiscsByRules has rules by which no moves lead anywhere: ErrRange comes before
// ErrNotFound.
func TestOtherNumbersOfDiscsByRules(t *testing.T) {
	for _, r := range []impl.Rules{{}, {{0, 1, 0}}, namedRules()["all"]} {
		for n := range int64(impl.MaxDiscs + 1) {
			for m := range int64(impl.MaxDiscs + 1) {
				if m == n {
					continue
				}
				for peg := range int64(3) {
					a := ruledArguments{r: r, x: state(3, tower(0, n)...), y: state(3, tower(peg, m)...)}
					checkRuledError(t, "SearchByRules", searchByRulesCall, a, impl.ErrRange)
				}
			}
		}
	}
}

// noDiscNumbers returns numbers of discs of which there are no states with three pegs.
func noDiscNumbers() []int64 {
	return append(oddNumbers(), 9, 10, 16, 64, 256, 264, 1<<32+8, 1<<62)
}

// TestNumbersByRulesOutOfRange has rules that are not strong, too: ErrRange comes before ErrState.
func TestNumbersByRulesOutOfRange(t *testing.T) {
	for _, r := range allRules() {
		for name, call := range ruledTowerCalls() {
			for _, n := range noDiscNumbers() {
				for _, pair := range append(pegPairs(), [2]int64{1, 1}, [2]int64{0, 3}) {
					checkRuledError(t, name, call, ruledArguments{r: r, n: n, i: pair[0], j: pair[1]}, impl.ErrRange)
				}
			}
			if name == "TableByRules" {
				continue
			}
			for n := range int64(impl.MaxDiscs + 1) {
				for peg := range int64(3) {
					checkRuledError(t, name, call, ruledArguments{r: r, n: n, i: peg, j: peg}, impl.ErrRange)
					for _, odd := range noPegs() {
						checkRuledError(t, name, call, ruledArguments{r: r, n: n, i: peg, j: odd}, impl.ErrRange)
						checkRuledError(t, name, call, ruledArguments{r: r, n: n, i: odd, j: peg}, impl.ErrRange)
						checkRuledError(t, name, call, ruledArguments{r: r, n: n, i: odd, j: odd}, impl.ErrRange)
					}
				}
			}
		}
	}
}

// TestNumbersByRulesThatAreNotStrong has all numbers of discs, none, too, and all pairs of pegs, those
// with an allowed direction, too.
func TestNumbersByRulesThatAreNotStrong(t *testing.T) {
	for _, r := range allRules() {
		want := int64(impl.ErrState)
		if isStrong(r) {
			want = impl.ErrNone
		}
		for name, call := range ruledTowerCalls() {
			for n := range int64(impl.MaxDiscs + 1) {
				for _, pair := range pegPairs() {
					a := ruledArguments{r: r, n: n, i: pair[0], j: pair[1]}
					if zero, code := call(a); code != want || code != impl.ErrNone && !zero {
						t.Errorf("%s of %v: code %d, want %d, other results zero: %v", name, a, code, want, zero)
					}
				}
			}
		}
	}
}

// TestRenamedByNoList has lists that have not all pegs, or more than these.
func TestRenamedByNoList(t *testing.T) {
	lists := [][]int64{
		nil, {}, {0}, {0, 1}, {0, 1, 2, 0}, {0, 1, 2, 3}, {0, 0, 0}, {0, 1, 1}, {2, 1, 2}, {1, 2, 3}, {0, 1, 3},
		{-1, 0, 1}, {0, 1, 2, 0, 1, 2}, {256, 257, 258}, {0, 1, 1<<32 + 2},
	}
	for _, odd := range noPegs() {
		lists = append(lists, []int64{odd, 1, 2}, []int64{0, odd, 2}, []int64{0, 1, odd}, []int64{odd, odd, odd})
	}
	for _, r := range allRules() {
		for _, list := range lists {
			checkRuledError(t, "RenameRules", ruleCalls()["RenameRules"], ruledArguments{r: r, list: list}, impl.ErrRange)
		}
	}
}

// TestRulesWithoutErrors has all rules with all lists and some states of each number of discs.
func TestRulesWithoutErrors(t *testing.T) {
	for _, r := range allRules() {
		for _, list := range permutations(3) {
			for name, call := range ruleCalls() {
				_, code := call(ruledArguments{r: r, list: list})
				wantCode(t, name, code, impl.ErrNone)
			}
		}
		for n := range int64(impl.MaxDiscs + 1) {
			for _, x := range []impl.State{state(3, tower(1, n)...), spreadState(n)} {
				for name, call := range ruledStateCalls() {
					_, code := call(ruledArguments{r: r, x: x, y: x})
					wantCode(t, name, code, impl.ErrNone)
				}
			}
		}
	}
}
