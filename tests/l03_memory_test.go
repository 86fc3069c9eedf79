package tests

import (
	"slices"
	"testing"

	"loop.example/g01321/impl"
)

// graphArguments returns pairs of states with spare capacity behind the discs: equal ones, ones with
// one and with several shortest ways, and ones that are refused.
func graphArguments() [][2]impl.State {
	return [][2]impl.State{
		{state(3, roomy()...), state(3, roomy()...)},
		{state(5, roomy(1)...), state(5, roomy(3)...)},
		{state(3, roomy(1, 1, 0)...), state(3, roomy(1, 0, 1)...)},
		{state(4, roomy(0, 0, 0, 0)...), state(4, roomy(3, 3, 3, 3)...)},
		{state(5, roomy(2, 0, 1)...), state(5, roomy(2, 0, 1)...)},
		{state(3, roomy(2, 0, 0, 1, 0, 2, 2, 0)...), state(3, roomy(0, 1, 2, 0, 1, 2, 0, 1)...)},
		{state(3, roomy(0, 1)...), state(3, roomy(0, 1, 2)...)},
		{state(3, roomy(0, 3)...), state(3, roomy(1, 2)...)},
		{state(4, roomy(0, 3)...), state(5, roomy(1, 2)...)},
	}
}

// TestGraphsNotModified calls each function of chapter 3 that takes states.
func TestGraphsNotModified(t *testing.T) {
	for _, p := range graphArguments() {
		x, y := p[0], p[1]
		before, behind := slices.Clone(x.Discs), slices.Clone(y.Discs)
		for _, calls := range []map[string]pathCall{graphStateCalls(), graphPairCalls()} {
			for name, call := range calls {
				call(x, 0, y)
				checkRoomy(t, name, x.Discs, before...)
				checkRoomy(t, name, y.Discs, behind...)
			}
		}
	}
}

// TestGraphListsShareNoMemory overwrites lists of numbers, with their spare capacity, and looks at
// the argument and at other lists.
func TestGraphListsShareNoMemory(t *testing.T) {
	for _, p := range graphArguments() {
		x := p[0]
		before := slices.Clone(x.Discs)
		k, n := x.Pegs, min(int64(len(x.Discs)), 3)
		calls := map[string]func() []int64{
			"LevelsFrom":    func() []int64 { list, _ := impl.LevelsFrom(x); return list },
			"FarthestFrom":  func() []int64 { list, _ := impl.FarthestFrom(x); return list },
			"DegreeNumbers": func() []int64 { list, _ := impl.DegreeNumbers(k, n); return list },
			"CentreOf":      func() []int64 { list, _ := impl.CentreOf(k, n); return list },
		}
		for name, call := range calls {
			list, other := call(), call()
			want := slices.Clone(list)
			spoil(list)
			checkRoomy(t, name, x.Discs, before...)
			if again := call(); !slices.Equal(other, want) || !slices.Equal(again, want) {
				t.Errorf("%s of %v: %v, then %v and %v", name, x, want, other, again)
			}
		}
	}
}

// TestLeastWaysShareNoMemory overwrites a way, with its spare capacity, and looks at other ways.
func TestLeastWaysShareNoMemory(t *testing.T) {
	for _, p := range graphArguments() {
		way, _ := impl.LeastWay(p[0], p[1])
		other, _ := impl.LeastWay(p[0], p[1])
		want := slices.Clone(way)
		all := way[:cap(way)]
		for i := range all {
			all[i] = move(-99, -99, -99)
		}
		if again, _ := impl.LeastWay(p[0], p[1]); !slices.Equal(other, want) || !slices.Equal(again, want) {
			t.Errorf("LeastWay(%v, %v): %v, then %v and %v", p[0], p[1], want, other, again)
		}
	}
}

// TestSearchesEnd calls each function of chapter 3 that searches.
func TestSearchesEnd(t *testing.T) {
	checkGoroutinesEnd(t, func() {
		for range 20 {
			for _, p := range graphArguments() {
				for _, calls := range []map[string]pathCall{graphStateCalls(), graphPairCalls()} {
					for _, call := range calls {
						call(p[0], 0, p[1])
					}
				}
			}
			impl.DiameterOf(3, 3)
			impl.CentreOf(4, 2)
		}
	})
}
