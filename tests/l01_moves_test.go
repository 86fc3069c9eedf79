package tests

import (
	"math"
	"slices"
	"testing"

	"loop.example/g01321/impl"
)

// legalByStacks tells whether a move is legal by the tops of piles of discs, without the program.
func legalByStacks(x impl.State, m impl.Move) bool {
	if m.From < 0 || m.From >= x.Pegs || m.To < 0 || m.To >= x.Pegs || m.From == m.To {
		return false
	}
	piles := make([][]int64, x.Pegs)
	for d := len(x.Discs) - 1; d >= 0; d-- {
		piles[x.Discs[d]] = append(piles[x.Discs[d]], int64(d))
	}
	from, to := piles[m.From], piles[m.To]
	if len(from) == 0 || from[len(from)-1] != m.Disc {
		return false
	}
	return len(to) == 0 || to[len(to)-1] > m.Disc
}

// movesByStacks returns the legal moves of a state, in their order, without the program.
func movesByStacks(x impl.State) []impl.Move {
	var moves []impl.Move
	for d := range x.Discs {
		for to := range x.Pegs {
			if m := move(int64(d), x.Discs[d], to); legalByStacks(x, m) {
				moves = append(moves, m)
			}
		}
	}
	return moves
}

// moved returns a state with a disc put on a peg, without the program.
func moved(x impl.State, m impl.Move) impl.State {
	y := state(x.Pegs, slices.Clone(x.Discs)...)
	y.Discs[m.Disc] = m.To
	return y
}

// someMoves returns moves that are legal and illegal, in range and out of it.
func someMoves() []impl.Move {
	var moves []impl.Move
	for disc := int64(-1); disc <= 8; disc++ {
		for from := int64(-1); from <= 5; from++ {
			for to := int64(-1); to <= 5; to++ {
				moves = append(moves, move(disc, from, to))
			}
		}
	}
	for _, odd := range append(oddNumbers(), 1<<62) {
		moves = append(moves, move(odd, 0, 1), move(0, odd, 1), move(0, 0, odd), move(odd, odd, odd))
	}
	return moves
}

// eachStateAndMove calls a function for some moves in all states of at most four discs, and in some
// of the greater ones.
func eachStateAndMove(call func(x impl.State, m impl.Move)) {
	moves := someMoves()
	for rank, x := range allStates() {
		if len(x.Discs) > 4 && rank%17 != 0 {
			continue
		}
		for _, m := range moves {
			call(x, m)
		}
	}
}

func TestIsLegal(t *testing.T) {
	eachStateAndMove(func(x impl.State, m impl.Move) {
		if yes, code := impl.IsLegal(x, m); yes != legalByStacks(x, m) || code != impl.ErrNone {
			t.Fatalf("IsLegal(%v, %v) = %v, %d", x, m, yes, code)
		}
	})
}

func TestIsLegalByHand(t *testing.T) {
	cases := []struct {
		x    impl.State
		m    impl.Move
		want bool
	}{
		{state(3, 0, 0), move(0, 0, 1), true},
		{state(3, 0, 0), move(0, 0, 2), true},
		{state(3, 0, 0), move(0, 0, 0), false},
		{state(3, 0, 0), move(0, 0, 3), false},
		{state(3, 0, 0), move(0, 1, 2), false},
		{state(3, 0, 0), move(1, 0, 2), false},
		{state(3, 1, 0), move(1, 0, 1), false},
		{state(3, 1, 0), move(1, 0, 2), true},
		{state(3, 1, 0), move(2, 0, 2), false},
		{state(4, 1, 2, 0), move(2, 0, 3), true},
		{state(4, 1, 2, 0), move(2, 0, 2), false},
		{state(5, 1, 2, 3, 0), move(3, 0, 4), true},
		{state(5), move(0, 0, 1), false},
		{state(3, 2, 2, 2, 2, 2, 2, 2, 0), move(7, 0, 1), true},
		{state(3, 2, 2, 2, 2, 2, 2, 2, 0), move(7, 0, 2), false},
		{state(3, 2, 2, 2, 2, 2, 2, 2, 0), move(8, 0, 1), false},
		{state(3, 0), move(math.MinInt64, 0, 1), false},
		{state(3, 0), move(math.MaxInt64, 0, 1), false},
	}
	for _, c := range cases {
		if yes, code := impl.IsLegal(c.x, c.m); yes != c.want || code != impl.ErrNone {
			t.Errorf("IsLegal(%v, %v) = %v, %d", c.x, c.m, yes, code)
		}
	}
}

func TestLegalMovesAndNeighbours(t *testing.T) {
	for _, x := range allStates() {
		want := movesByStacks(x)
		if moves, code := impl.LegalMoves(x); !slices.Equal(moves, want) || code != impl.ErrNone {
			t.Fatalf("LegalMoves(%v) = %v, %d, want %v", x, moves, code, want)
		}
		var after []impl.State
		for _, m := range want {
			after = append(after, moved(x, m))
		}
		if states, code := impl.NeighboursOf(x); !sameStates(states, after) || code != impl.ErrNone {
			t.Fatalf("NeighboursOf(%v) = %v, %d, want %v", x, states, code, after)
		}
	}
}

func TestLegalMovesByHand(t *testing.T) {
	moves, code := impl.LegalMoves(state(3, 0, 0))
	if !slices.Equal(moves, []impl.Move{move(0, 0, 1), move(0, 0, 2)}) || code != impl.ErrNone {
		t.Errorf("LegalMoves of the document's example = %v, %d", moves, code)
	}
	moves, code = impl.LegalMoves(state(4, 3, 0))
	if !slices.Equal(moves, []impl.Move{move(0, 3, 0), move(0, 3, 1), move(0, 3, 2), move(1, 0, 1), move(1, 0, 2)}) || code != impl.ErrNone {
		t.Errorf("LegalMoves of two discs on four pegs = %v, %d", moves, code)
	}
	for k := int64(3); k <= 5; k++ {
		if moves, code := impl.LegalMoves(state(k)); len(moves) != 0 || code != impl.ErrNone {
			t.Errorf("LegalMoves of no discs = %v, %d", moves, code)
		}
		if states, code := impl.NeighboursOf(state(k)); len(states) != 0 || code != impl.ErrNone {
			t.Errorf("NeighboursOf of no discs = %v, %d", states, code)
		}
	}
}

func TestAfterMove(t *testing.T) {
	eachStateAndMove(func(x impl.State, m impl.Move) {
		y, code := impl.AfterMove(x, m)
		legal := legalByStacks(x, m)
		if legal && (!sameState(y, moved(x, m)) || code != impl.ErrNone) {
			t.Fatalf("AfterMove(%v, %v) = %v, %d", x, m, y, code)
		}
		if !legal && (!isZeroState(y) || code != impl.ErrState) {
			t.Fatalf("AfterMove(%v, %v) = %v, %d", x, m, y, code)
		}
	})
}

func TestRuns(t *testing.T) {
	x := state(3, 0, 0)
	moves := []impl.Move{move(0, 0, 1), move(1, 0, 2), move(0, 1, 2)}
	want := []impl.State{x, state(3, 1, 0), state(3, 1, 2), state(3, 2, 2)}
	for n := range len(moves) + 1 {
		if states, code := impl.StatesOfRun(x, moves[:n]); !sameStates(states, want[:n+1]) || code != impl.ErrNone {
			t.Errorf("StatesOfRun of %d moves = %v, %d", n, states, code)
		}
		if y, code := impl.RunMoves(x, moves[:n]); !sameState(y, want[n]) || code != impl.ErrNone {
			t.Errorf("RunMoves of %d moves = %v, %d", n, y, code)
		}
	}
	empty := state(5)
	if states, code := impl.StatesOfRun(empty, nil); !sameStates(states, []impl.State{empty}) || code != impl.ErrNone {
		t.Errorf("StatesOfRun of no discs = %v, %d", states, code)
	}
	if y, code := impl.RunMoves(empty, []impl.Move{}); !sameState(y, empty) || code != impl.ErrNone {
		t.Errorf("RunMoves of no discs = %v, %d", y, code)
	}
}

// TestRunsFollowMoves goes through runs of the last legal moves that do not lead straight back.
func TestRunsFollowMoves(t *testing.T) {
	for k, n := range shapes() {
		x := state(k, make([]int64, n)...)
		last, states, moves := x, []impl.State{x}, []impl.Move(nil)
		for n > 0 && len(moves) < 200 {
			next := movesByStacks(last)
			m := next[len(next)-1]
			if len(moves) > 0 && m.Disc == moves[len(moves)-1].Disc {
				m = next[(len(moves)*7)%len(next)]
			}
			last = moved(last, m)
			states, moves = append(states, last), append(moves, m)
		}
		if got, code := impl.StatesOfRun(x, moves); !sameStates(got, states) || code != impl.ErrNone {
			t.Errorf("StatesOfRun(%v, ..) = %v, %d", x, got, code)
		}
		if y, code := impl.RunMoves(x, moves); !sameState(y, last) || code != impl.ErrNone {
			t.Errorf("RunMoves(%v, ..) = %v, %d", x, y, code)
		}
	}
}

func TestRunsWithIllegalMoves(t *testing.T) {
	x := state(3, 0, 0)
	legal := []impl.Move{move(0, 0, 1), move(1, 0, 2), move(0, 1, 2)}
	for place := range len(legal) + 1 {
		for _, bad := range []impl.Move{move(1, 0, 1), move(0, 0, 0), move(-1, 0, 1), move(0, 0, 3), move(2, 0, 1)} {
			moves := slices.Insert(slices.Clone(legal), place, bad)
			if y, code := impl.RunMoves(x, moves); !isZeroState(y) || code != impl.ErrState {
				t.Errorf("RunMoves(%v, %v) = %v, %d", x, moves, y, code)
			}
			if states, code := impl.StatesOfRun(x, moves); len(states) != 0 || code != impl.ErrState {
				t.Errorf("StatesOfRun(%v, %v) = %v, %d", x, moves, states, code)
			}
		}
	}
	back := []impl.Move{move(0, 0, 1), move(0, 0, 1)}
	if _, code := impl.RunMoves(x, back); code != impl.ErrState {
		t.Errorf("RunMoves of a move that is legal at first alone: code %d", code)
	}
}

func TestLongRuns(t *testing.T) {
	x := state(3, 0, 0)
	var moves []impl.Move
	for len(moves) <= impl.MaxStates {
		moves = append(moves, move(0, 0, 1), move(0, 1, 0))
	}
	most, tooMany := moves[:impl.MaxStates], moves[:impl.MaxStates+1]
	if y, code := impl.RunMoves(x, most); !sameState(y, state(3, 1, 0)) || code != impl.ErrNone {
		t.Errorf("RunMoves of MaxStates moves = %v, %d", y, code)
	}
	states, code := impl.StatesOfRun(x, most)
	if len(states) != impl.MaxStates+1 || code != impl.ErrNone || !sameState(states[impl.MaxStates], state(3, 1, 0)) || !sameState(states[impl.MaxStates-1], x) {
		t.Errorf("StatesOfRun of MaxStates moves: %d states, %d", len(states), code)
	}
	illegal := slices.Clone(tooMany)
	illegal[0] = move(1, 0, 1)
	for _, run := range [][]impl.Move{tooMany, illegal} {
		if y, code := impl.RunMoves(x, run); !isZeroState(y) || code != impl.ErrRange {
			t.Errorf("RunMoves of too many moves = %v, %d", y, code)
		}
		if states, code := impl.StatesOfRun(x, run); len(states) != 0 || code != impl.ErrRange {
			t.Errorf("StatesOfRun of too many moves: %d states, %d", len(states), code)
		}
	}
	if _, code := impl.RunMoves(x, illegal[:impl.MaxStates]); code != impl.ErrState {
		t.Errorf("RunMoves of MaxStates moves with an illegal one: code %d", code)
	}
}

func TestMoveBetween(t *testing.T) {
	for _, shape := range [][2]int64{{3, 0}, {3, 1}, {3, 4}, {4, 3}, {5, 3}} {
		for _, x := range statesOf(shape[0], shape[1]) {
			for _, y := range statesOf(shape[0], shape[1]) {
				want, wantedCode := impl.Move{}, int64(impl.ErrNotFound)
				for _, m := range movesByStacks(x) {
					if sameState(moved(x, m), y) {
						want, wantedCode = m, impl.ErrNone
					}
				}
				if m, code := impl.MoveBetween(x, y); m != want || code != wantedCode {
					t.Fatalf("MoveBetween(%v, %v) = %v, %d, want %v, %d", x, y, m, code, want, wantedCode)
				}
			}
		}
	}
}

func TestMoveBetweenErrors(t *testing.T) {
	pairs := [][2]impl.State{
		{state(3, 0, 0), state(4, 1, 0)},
		{state(3), state(4)},
		{state(3, 0), state(3, 1, 0)},
		{state(3, 1, 0), state(3, 1)},
		{state(3), state(3, 0)},
		{state(3, 0), state(3)},
		{state(5, 0, 0), state(3, 0)},
		{state(3, 1), state(3, 2, 0)},
	}
	for _, p := range pairs {
		if m, code := impl.MoveBetween(p[0], p[1]); m != (impl.Move{}) || code != impl.ErrRange {
			t.Errorf("MoveBetween(%v, %v) = %v, %d", p[0], p[1], m, code)
		}
	}
	if _, code := impl.MoveBetween(state(3, 0), state(4, 4, 0)); code != impl.ErrInvalid {
		t.Errorf("MoveBetween of a state and none with other numbers: code %d", code)
	}
	for _, x := range allStates() {
		if m, code := impl.MoveBetween(x, x); m != (impl.Move{}) || code != impl.ErrNotFound {
			t.Fatalf("MoveBetween(%v, the same) = %v, %d", x, m, code)
		}
	}
}
