package tests

import (
	"testing"

	"loop.example/g01321/impl"
)

// graphStateCalls returns the functions of chapter 3 that take one state.
func graphStateCalls() map[string]pathCall {
	return map[string]pathCall{
		"DegreeOf": func(x impl.State, _ int64, _ impl.State) (bool, int64) {
			v, c := impl.DegreeOf(x)
			return v == 0, c
		},
		"LevelsFrom": func(x impl.State, _ int64, _ impl.State) (bool, int64) {
			v, c := impl.LevelsFrom(x)
			return len(v) == 0, c
		},
		"ReachOf": func(x impl.State, _ int64, _ impl.State) (bool, int64) {
			v, c := impl.ReachOf(x)
			return v == 0, c
		},
		"FarthestFrom": func(x impl.State, _ int64, _ impl.State) (bool, int64) {
			v, c := impl.FarthestFrom(x)
			return len(v) == 0, c
		},
	}
}

// graphPairCalls returns the functions of chapter 3 that take two states.
func graphPairCalls() map[string]pathCall {
	return map[string]pathCall{
		"SearchDistance": func(x impl.State, _ int64, y impl.State) (bool, int64) {
			v, c := impl.SearchDistance(x, y)
			return v == 0, c
		},
		"LeastWay": func(x impl.State, _ int64, y impl.State) (bool, int64) {
			v, c := impl.LeastWay(x, y)
			return len(v) == 0, c
		},
		"CountLeastWays": func(x impl.State, _ int64, y impl.State) (bool, int64) {
			v, c := impl.CountLeastWays(x, y)
			return v == 0, c
		},
	}
}

// shapeCall calls a function of numbers of pegs and discs, and reports whether all results but the
// code are zero.
type shapeCall func(k, n int64) (bool, int64)

// countCalls returns the functions of chapter 3 that take any numbers of pegs and discs.
func countCalls() map[string]shapeCall {
	return map[string]shapeCall{
		"CountStates":   func(k, n int64) (bool, int64) { v, c := impl.CountStates(k, n); return v == 0, c },
		"CountEdges":    func(k, n int64) (bool, int64) { v, c := impl.CountEdges(k, n); return v == 0, c },
		"DegreeNumbers": func(k, n int64) (bool, int64) { v, c := impl.DegreeNumbers(k, n); return len(v) == 0, c },
	}
}

// wholeCalls returns the functions of chapter 3 that take numbers with at most MaxWhole states.
func wholeCalls() map[string]shapeCall {
	return map[string]shapeCall{
		"DiameterOf": func(k, n int64) (bool, int64) { v, w, c := impl.DiameterOf(k, n); return v == 0 && w == 0, c },
		"CentreOf":   func(k, n int64) (bool, int64) { v, c := impl.CentreOf(k, n); return len(v) == 0, c },
	}
}

func TestGraphsOfNoStates(t *testing.T) {
	others := []impl.State{state(3), state(4), state(5), state(3, 0, 1), state(4, 0, 1, 2), state(5, 4, 4, 4, 4, 4), state(3, tower(2, 8)...)}
	for why, x := range noStates() {
		for name, call := range graphStateCalls() {
			checkError(t, name+" of "+why, call, x, 0, state(3), impl.ErrInvalid)
		}
		for name, call := range graphPairCalls() {
			for _, y := range others {
				checkError(t, name+" with "+why, call, x, 0, y, impl.ErrInvalid)
				checkError(t, name+" with "+why, call, y, 0, x, impl.ErrInvalid)
			}
			checkError(t, name+" with "+why+" twice", call, x, 0, x, impl.ErrInvalid)
		}
	}
}

// TestGraphsOfUnlikeStates has all pairs of different numbers of pegs and discs.
func TestGraphsOfUnlikeStates(t *testing.T) {
	for k, n := range shapes() {
		for l, m := range shapes() {
			if k == l && n == m {
				continue
			}
			for name, call := range graphPairCalls() {
				checkError(t, name, call, state(k, tower(0, n)...), 0, state(l, tower(0, m)...), impl.ErrRange)
				checkError(t, name, call, state(k, tower(2, n)...), 0, state(l, tower(1, m)...), impl.ErrRange)
			}
		}
	}
}

// checkShape fails if a call does not return a code, or, with an error, something else than zero.
func checkShape(t *testing.T, name string, call shapeCall, k, n, want int64) {
	t.Helper()
	if zero, code := call(k, n); code != want || want != impl.ErrNone && !zero {
		t.Errorf("%s of %d, %d: code %d, want %d, other results zero: %v", name, k, n, code, want, zero)
	}
}

func TestGraphsOfNoShapes(t *testing.T) {
	for _, shape := range noShapes() {
		for _, calls := range []map[string]shapeCall{countCalls(), wholeCalls()} {
			for name, call := range calls {
				checkShape(t, name, call, shape[0], shape[1], impl.ErrRange)
			}
		}
	}
}

// TestLimitOfWholeGraphs has exactly MaxWhole states for four discs on four pegs, and 243 for five
// discs on three pegs; the next ones have more.
func TestLimitOfWholeGraphs(t *testing.T) {
	greatest := map[int64]int64{3: 5, 4: 4, 5: 3}
	for k, n := range shapes() {
		for name, call := range countCalls() {
			checkShape(t, name, call, k, n, impl.ErrNone)
		}
		want := int64(impl.ErrNone)
		if n > greatest[k] {
			want = impl.ErrLimit
		}
		for name, call := range wholeCalls() {
			checkShape(t, name, call, k, n, want)
		}
	}
}
