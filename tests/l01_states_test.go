package tests

import (
	"slices"
	"testing"

	"loop.example/g01321/impl"
)

func TestErrorCodesAndLimits(t *testing.T) {
	codes := []int64{impl.ErrNone, impl.ErrInvalid, impl.ErrRange, impl.ErrLimit, impl.ErrNotFound, impl.ErrState, impl.ErrSyntax}
	if !slices.Equal(codes, []int64{0, 1, 2, 3, 4, 5, 6}) {
		t.Errorf("error codes = %v", codes)
	}
	if impl.MaxDiscs != 8 || impl.MaxStates != 6561 {
		t.Errorf("MaxDiscs = %d, MaxStates = %d", impl.MaxDiscs, impl.MaxStates)
	}
}

func TestIsState(t *testing.T) {
	count := map[[2]int64]int64{}
	for _, x := range allStates() {
		count[[2]int64{x.Pegs, int64(len(x.Discs))}]++
		if !impl.IsState(x) {
			t.Fatalf("IsState(%v) = false", x)
		}
	}
	if count[[2]int64{3, 8}] != impl.MaxStates || count[[2]int64{4, 6}] != 4096 || count[[2]int64{5, 5}] != 3125 {
		t.Errorf("numbers of states = %v", count)
	}
	for why, x := range noStates() {
		if impl.IsState(x) {
			t.Errorf("IsState of %s = true", why)
		}
	}
	if !impl.IsState(impl.State{Pegs: 5, Discs: nil}) || !impl.IsState(impl.State{Pegs: 5, Discs: []int64{}}) {
		t.Errorf("IsState of no discs = false")
	}
}

func TestIsStateLooksAtEachDisc(t *testing.T) {
	for k, n := range shapes() {
		for d := range n {
			for _, peg := range append(oddNumbers(), k) {
				x := state(k, make([]int64, n)...)
				x.Discs[d] = peg
				if impl.IsState(x) {
					t.Errorf("IsState(%v) = true", x)
				}
			}
		}
	}
}

func TestPerfectState(t *testing.T) {
	for k, n := range shapes() {
		for peg := range k {
			x, code := impl.PerfectState(k, n, peg)
			want := state(k, slices.Repeat([]int64{peg}, int(n))...)
			if !sameState(x, want) || code != impl.ErrNone {
				t.Errorf("PerfectState(%d, %d, %d) = %v, %d", k, n, peg, x, code)
			}
		}
	}
}

func TestPerfectStateErrors(t *testing.T) {
	check := func(k, n, peg int64) {
		t.Helper()
		if x, code := impl.PerfectState(k, n, peg); !isZeroState(x) || code != impl.ErrRange {
			t.Errorf("PerfectState(%d, %d, %d) = %v, %d", k, n, peg, x, code)
		}
	}
	for k, most := range greatestTowers() {
		check(k, most+1, 0)
		check(k, 0, k)
		check(k, 2, k)
		for _, odd := range oddNumbers() {
			check(k, odd, 0)
			check(k, 2, odd)
			check(k, 0, odd)
			check(odd, 2, 0)
		}
	}
	for _, k := range []int64{0, 1, 2, 6, 7} {
		check(k, 0, 0)
		check(k, 1, 0)
	}
}

func TestIsPerfectState(t *testing.T) {
	for _, x := range allStates() {
		want := true
		for _, peg := range x.Discs {
			want = want && peg == x.Discs[0]
		}
		if yes, code := impl.IsPerfectState(x); yes != want || code != impl.ErrNone {
			t.Fatalf("IsPerfectState(%v) = %v, %d", x, yes, code)
		}
	}
}

func TestRankOf(t *testing.T) {
	for want, x := range allStates() {
		if r, code := impl.RankOf(x); r != want || code != impl.ErrNone {
			t.Fatalf("RankOf(%v) = %d, %d, want %d", x, r, code, want)
		}
	}
}

func TestStateOfRank(t *testing.T) {
	for r, want := range allStates() {
		x, code := impl.StateOfRank(want.Pegs, int64(len(want.Discs)), r)
		if !sameState(x, want) || code != impl.ErrNone {
			t.Fatalf("StateOfRank(%d, %d, %d) = %v, %d", want.Pegs, len(want.Discs), r, x, code)
		}
	}
}

func TestStateOfRankErrors(t *testing.T) {
	check := func(k, n, r int64) {
		t.Helper()
		if x, code := impl.StateOfRank(k, n, r); !isZeroState(x) || code != impl.ErrRange {
			t.Errorf("StateOfRank(%d, %d, %d) = %v, %d", k, n, r, x, code)
		}
	}
	for k, n := range shapes() {
		states := int64(1)
		for range n {
			states *= k
		}
		check(k, n, states)
		for _, odd := range oddNumbers() {
			check(k, n, odd)
			check(k, odd, 0)
			check(odd, n, 0)
		}
	}
	for k, most := range greatestTowers() {
		check(k, most+1, 0)
		check(k, impl.MaxDiscs+1, 0)
	}
	for _, k := range []int64{0, 1, 2, 6, 7} {
		check(k, 0, 0)
		check(k, 1, 0)
	}
}

func TestTopOf(t *testing.T) {
	for _, x := range allStates() {
		for peg := range x.Pegs {
			want, wantedCode := int64(slices.Index(x.Discs, peg)), int64(impl.ErrNone)
			if want < 0 {
				want, wantedCode = 0, impl.ErrNotFound
			}
			if d, code := impl.TopOf(x, peg); d != want || code != wantedCode {
				t.Fatalf("TopOf(%v, %d) = %d, %d, want %d, %d", x, peg, d, code, want, wantedCode)
			}
		}
	}
}

func TestTopOfErrors(t *testing.T) {
	for k, n := range shapes() {
		x := state(k, make([]int64, n)...)
		for _, peg := range append(oddNumbers(), k, k+1) {
			if d, code := impl.TopOf(x, peg); d != 0 || code != impl.ErrRange {
				t.Errorf("TopOf(%v, %d) = %d, %d", x, peg, d, code)
			}
		}
	}
	if _, code := impl.TopOf(state(3, 3), 3); code != impl.ErrInvalid {
		t.Errorf("TopOf of no state and no peg: code %d", code)
	}
}

func TestStacksOf(t *testing.T) {
	for _, x := range allStates() {
		want := make([][]int64, x.Pegs)
		for peg := range want {
			for d := range x.Discs {
				if x.Discs[d] == int64(peg) {
					want[peg] = append([]int64{int64(d)}, want[peg]...)
				}
			}
		}
		if stacks, code := impl.StacksOf(x); !sameLists(stacks, want) || code != impl.ErrNone {
			t.Fatalf("StacksOf(%v) = %v, %d, want %v", x, stacks, code, want)
		}
	}
}

func TestRenamePegs(t *testing.T) {
	x := state(3, 2, 1, 0)
	if y, code := impl.RenamePegs(x, []int64{2, 0, 1}); !sameState(y, state(3, 1, 0, 2)) || code != impl.ErrNone {
		t.Errorf("RenamePegs = %v, %d", y, code)
	}
	if y, code := impl.RenamePegs(state(5), []int64{4, 3, 2, 1, 0}); !sameState(y, state(5)) || code != impl.ErrNone {
		t.Errorf("RenamePegs of no discs = %v, %d", y, code)
	}
	if y, code := impl.RenamePegs(state(4, 0, 1, 2, 3), []int64{3, 0, 2, 1}); !sameState(y, state(4, 3, 0, 2, 1)) || code != impl.ErrNone {
		t.Errorf("RenamePegs on four pegs = %v, %d", y, code)
	}
	for _, x := range allStates() {
		list := []int64{1, 2, 0, 4, 3}[:x.Pegs]
		if x.Pegs == 4 {
			list[3] = 3
		}
		want := state(x.Pegs)
		for _, peg := range x.Discs {
			want.Discs = append(want.Discs, list[peg])
		}
		if y, code := impl.RenamePegs(x, list); !sameState(y, want) || code != impl.ErrNone {
			t.Fatalf("RenamePegs(%v, %v) = %v, %d", x, list, y, code)
		}
	}
}

func TestRenamePegsErrors(t *testing.T) {
	lists := map[int64][][]int64{
		3: {nil, {}, {0}, {0, 1}, {0, 1, 2, 3}, {0, 1, 1}, {2, 1, 2}, {0, 0, 2}, {0, 1, 3}, {-1, 0, 1}, {1, 2, 3}, {0, 1, 1 << 62}},
		4: {{0, 1, 2}, {0, 1, 2, 4}, {0, 1, 2, 2}, {3, 2, 1, 3}, {0, 1, 2, 3, 4}},
		5: {{0, 1, 2, 3}, {0, 1, 2, 3, 5}, {0, 1, 2, 3, 3}, {4, 0, 1, 2, 4}, {0, 1, 2, 3, 4, 5}, {0, 1, 2, 3, -1}},
	}
	for k, bad := range lists {
		for _, list := range bad {
			for _, x := range []impl.State{state(k), state(k, 0, 1), state(k, 0, 0, 0)} {
				if y, code := impl.RenamePegs(x, list); !isZeroState(y) || code != impl.ErrRange {
					t.Errorf("RenamePegs(%v, %v) = %v, %d", x, list, y, code)
				}
			}
		}
	}
	if _, code := impl.RenamePegs(state(3, 3), []int64{0, 0, 0}); code != impl.ErrInvalid {
		t.Errorf("RenamePegs of no state and no list of pegs: code %d", code)
	}
}

// TestNoStateIsInvalid holds each function that takes a state against structs that are none: the
// code is ErrInvalid, whatever the other arguments are, and all else is zero.
func TestNoStateIsInvalid(t *testing.T) {
	good := state(3, 0, 0)
	long := make([]impl.Move, impl.MaxStates+1)
	calls := map[string]func(x impl.State) (bool, int64){
		"IsPerfectState":       func(x impl.State) (bool, int64) { v, c := impl.IsPerfectState(x); return !v, c },
		"RankOf":               func(x impl.State) (bool, int64) { v, c := impl.RankOf(x); return v == 0, c },
		"TopOf":                func(x impl.State) (bool, int64) { v, c := impl.TopOf(x, 0); return v == 0, c },
		"TopOf, no peg":        func(x impl.State) (bool, int64) { v, c := impl.TopOf(x, -1); return v == 0, c },
		"StacksOf":             func(x impl.State) (bool, int64) { v, c := impl.StacksOf(x); return len(v) == 0, c },
		"IsLegal":              func(x impl.State) (bool, int64) { v, c := impl.IsLegal(x, move(0, 0, 1)); return !v, c },
		"IsLegal, no disc":     func(x impl.State) (bool, int64) { v, c := impl.IsLegal(x, move(-1, 9, 9)); return !v, c },
		"LegalMoves":           func(x impl.State) (bool, int64) { v, c := impl.LegalMoves(x); return len(v) == 0, c },
		"AfterMove":            func(x impl.State) (bool, int64) { v, c := impl.AfterMove(x, move(0, 0, 1)); return isZeroState(v), c },
		"AfterMove, no disc":   func(x impl.State) (bool, int64) { v, c := impl.AfterMove(x, move(-1, 9, 9)); return isZeroState(v), c },
		"NeighboursOf":         func(x impl.State) (bool, int64) { v, c := impl.NeighboursOf(x); return len(v) == 0, c },
		"RunMoves":             func(x impl.State) (bool, int64) { v, c := impl.RunMoves(x, nil); return isZeroState(v), c },
		"RunMoves, too many":   func(x impl.State) (bool, int64) { v, c := impl.RunMoves(x, long); return isZeroState(v), c },
		"StatesOfRun":          func(x impl.State) (bool, int64) { v, c := impl.StatesOfRun(x, nil); return len(v) == 0, c },
		"StatesOfRun, illegal": func(x impl.State) (bool, int64) { v, c := impl.StatesOfRun(x, long[:1]); return len(v) == 0, c },
		"MoveBetween, first":   func(x impl.State) (bool, int64) { v, c := impl.MoveBetween(x, good); return v == impl.Move{}, c },
		"MoveBetween, second":  func(x impl.State) (bool, int64) { v, c := impl.MoveBetween(good, x); return v == impl.Move{}, c },
		"MoveBetween, both":    func(x impl.State) (bool, int64) { v, c := impl.MoveBetween(x, x); return v == impl.Move{}, c },
		"RenamePegs": func(x impl.State) (bool, int64) {
			v, c := impl.RenamePegs(x, []int64{1, 0, 2})
			return isZeroState(v), c
		},
		"RenamePegs, no list": func(x impl.State) (bool, int64) { v, c := impl.RenamePegs(x, nil); return isZeroState(v), c },
		"StateText":           func(x impl.State) (bool, int64) { v, c := impl.StateText(x); return v == "", c },
	}
	for name, call := range calls {
		for why, x := range noStates() {
			if zero, code := call(x); !zero || code != impl.ErrInvalid {
				t.Errorf("%s of %s: code %d, other results zero: %v", name, why, code, zero)
			}
		}
	}
}
