package tests

import (
	"testing"

	"loop.example/g01321/impl"
)

// pathCall calls a function of states and a peg, which leaves out what it does not take, and reports
// whether all results but the code are zero.
type pathCall func(x impl.State, a int64, y impl.State) (bool, int64)

// pegCalls returns the functions that take a state and a peg.
func pegCalls() map[string]pathCall {
	return map[string]pathCall{
		"GoalsOf": func(x impl.State, a int64, _ impl.State) (bool, int64) {
			v, c := impl.GoalsOf(x, a)
			return len(v) == 0, c
		},
		"DistanceToPeg": func(x impl.State, a int64, _ impl.State) (bool, int64) {
			v, c := impl.DistanceToPeg(x, a)
			return v == 0, c
		},
		"WayToPeg": func(x impl.State, a int64, _ impl.State) (bool, int64) {
			v, c := impl.WayToPeg(x, a)
			return len(v) == 0, c
		},
		"FirstMove": func(x impl.State, a int64, _ impl.State) (bool, int64) {
			v, c := impl.FirstMove(x, a)
			return v == impl.Move{}, c
		},
		"IsOnWay": isOnWayCall,
	}
}

// pairCalls returns the functions that take two states.
func pairCalls() map[string]pathCall {
	return map[string]pathCall{
		"OneMoveNumber": func(x impl.State, _ int64, y impl.State) (bool, int64) {
			v, c := impl.OneMoveNumber(x, y)
			return v == 0, c
		},
		"TwoMoveNumber": func(x impl.State, _ int64, y impl.State) (bool, int64) {
			v, c := impl.TwoMoveNumber(x, y)
			return v == 0, c
		},
		"DistanceByRule": func(x impl.State, _ int64, y impl.State) (bool, int64) {
			v, c := impl.DistanceByRule(x, y)
			return v == 0, c
		},
		"WaysByRule": func(x impl.State, _ int64, y impl.State) (bool, int64) {
			v, c := impl.WaysByRule(x, y)
			return v == 0, c
		},
		"WayBetween": func(x impl.State, _ int64, y impl.State) (bool, int64) {
			v, c := impl.WayBetween(x, y)
			return len(v) == 0, c
		},
		"IsOnWay": isOnWayCall,
	}
}

func isOnWayCall(x impl.State, a int64, y impl.State) (bool, int64) {
	v, c := impl.IsOnWay(x, a, y)
	return !v, c
}

// checkError fails if a call does not return a code and zero values.
func checkError(t *testing.T, name string, call pathCall, x impl.State, a int64, y impl.State, want int64) {
	t.Helper()
	if zero, code := call(x, a, y); !zero || code != want {
		t.Errorf("%s of %v, %d, %v: code %d, want %d, other results zero: %v", name, x, a, y, code, want, zero)
	}
}

// noPegs returns numbers that are no pegs of a state with three pegs.
func noPegs() []int64 {
	return append(oddNumbers(), 3, 4, 5, 1<<62)
}

// otherPegs returns states that have not three pegs, perfect ones among them.
func otherPegs() []impl.State {
	return []impl.State{state(4), state(5), state(4, 0), state(5, 2), state(4, 1, 0), state(5, 1, 1), state(4, 0, 1, 2, 3), state(5, 0, 1, 2, 3, 4)}
}

func TestPathsOfNoStates(t *testing.T) {
	others := append(otherPegs(), state(3), state(3, 0), state(3, 0, 1))
	for why, x := range noStates() {
		for name, call := range pegCalls() {
			for _, a := range append(noPegs(), 0, 1, 2) {
				checkError(t, name+" with "+why, call, x, a, state(3, 0, 1), impl.ErrInvalid)
			}
		}
		for name, call := range pairCalls() {
			for _, y := range others {
				checkError(t, name+" with "+why, call, x, 0, y, impl.ErrInvalid)
				checkError(t, name+" with "+why, call, y, 0, x, impl.ErrInvalid)
			}
			checkError(t, name+" with "+why+" twice", call, x, 0, x, impl.ErrInvalid)
		}
		for _, y := range others {
			checkError(t, "IsOnWay with "+why, isOnWayCall, y, 3, x, impl.ErrInvalid)
		}
	}
}

func TestPathsOfOtherNumbersOfPegs(t *testing.T) {
	for _, x := range otherPegs() {
		same := state(3, make([]int64, len(x.Discs))...)
		for name, call := range pegCalls() {
			for a := range int64(6) {
				checkError(t, name, call, x, a, same, impl.ErrRange)
			}
		}
		for name, call := range pairCalls() {
			checkError(t, name, call, x, 0, same, impl.ErrRange)
			checkError(t, name, call, same, 0, x, impl.ErrRange)
			checkError(t, name+" twice", call, x, 0, x, impl.ErrRange)
		}
	}
}

func TestPathsOfOtherNumbersOfDiscs(t *testing.T) {
	for n := range int64(impl.MaxDiscs + 1) {
		for m := range int64(impl.MaxDiscs + 1) {
			if m == n {
				continue
			}
			for name, call := range pairCalls() {
				checkError(t, name, call, state(3, tower(0, n)...), 0, state(3, tower(0, m)...), impl.ErrRange)
				checkError(t, name, call, state(3, tower(2, n)...), 0, state(3, tower(1, m)...), impl.ErrRange)
			}
		}
	}
}

func TestPathsToNoPegs(t *testing.T) {
	for _, x := range []impl.State{state(3), state(3, 2), state(3, 0, 0, 0), state(3, 1, 2, 0), state(3, tower(2, 8)...)} {
		for name, call := range pegCalls() {
			for _, a := range noPegs() {
				checkError(t, name, call, x, a, x, impl.ErrRange)
				checkError(t, name, call, x, a, state(3, tower(1, int64(len(x.Discs)))...), impl.ErrRange)
			}
		}
	}
}

func TestFirstMoveOfPerfectStates(t *testing.T) {
	for n := range int64(impl.MaxDiscs + 1) {
		for a := range int64(3) {
			x := state(3, tower(a, n)...)
			checkError(t, "FirstMove", pegCalls()["FirstMove"], x, a, x, impl.ErrState)
			m, code := impl.FirstMove(x, (a+1)%3)
			if n == 0 && code != impl.ErrState || n > 0 && (m.Disc != 0 || m.From != a || code != impl.ErrNone) {
				t.Errorf("FirstMove(%v, %d) = %v, %d", x, (a+1)%3, m, code)
			}
		}
	}
}
