package tests

import (
	"slices"
	"testing"

	"loop.example/g01321/impl"
)

// TestPathsNotModified calls each function of chapter 2 with spare capacity behind the discs: of
// pairs with one move and with two moves of the greatest disc, equal ones, and ones that are refused.
func TestPathsNotModified(t *testing.T) {
	pairs := [][2][]int64{
		{nil, nil},
		{{0}, {2}},
		{{0, 1, 2}, {0, 0, 0}},
		{{1, 1, 0}, {0, 0, 1}},
		{{1, 1, 0, 2}, {2, 0, 1, 2}},
		{{2, 0, 1}, {2, 0, 1}},
		{{0, 1}, {0, 1, 2}},
		{{0, 3}, {1, 2}},
		{{2, 0, 0, 1, 0, 2, 2, 0}, {0, 1, 2, 0, 1, 2, 0, 1}},
		{{1, 1, 1, 1, 1, 1, 1, 0}, {0, 0, 0, 0, 0, 0, 0, 1}},
	}
	for _, p := range pairs {
		x := impl.State{Pegs: 3, Discs: roomy(p[0]...)}
		y := impl.State{Pegs: 3, Discs: roomy(p[1]...)}
		for _, calls := range []map[string]pathCall{pegCalls(), pairCalls()} {
			for name, call := range calls {
				for _, a := range []int64{0, 1, 2, 3} {
					call(x, a, y)
				}
				checkRoomy(t, name, x.Discs, p[0]...)
				checkRoomy(t, name, y.Discs, p[1]...)
			}
		}
	}
}

// TestGoalsShareNoMemory overwrites goals, with their spare capacity, and looks at the argument and
// at other goals.
func TestGoalsShareNoMemory(t *testing.T) {
	for _, discs := range [][]int64{nil, {0}, {1, 0, 2}, {2, 0, 0, 1, 0, 2, 2, 0}, {1, 1, 1}} {
		for a := range int64(3) {
			x := impl.State{Pegs: 3, Discs: roomy(discs...)}
			goals, _ := impl.GoalsOf(x, a)
			want := slices.Clone(goals)
			other, _ := impl.GoalsOf(x, a)
			spoil(goals)
			checkRoomy(t, "GoalsOf", x.Discs, discs...)
			if again, _ := impl.GoalsOf(x, a); !slices.Equal(other, want) || !slices.Equal(again, want) {
				t.Errorf("GoalsOf(%v, %d) = %v, then %v and %v", x, a, want, other, again)
			}
		}
	}
}

// TestWaysShareNoMemory overwrites a way, with its spare capacity, and looks at other ways.
func TestWaysShareNoMemory(t *testing.T) {
	pairs := [][2]impl.State{
		{state(3), state(3)},
		{state(3, 0, 1, 2), state(3, 0, 0, 0)},
		{state(3, 1, 1, 0), state(3, 2, 0, 1)},
		{state(3, tower(0, 8)...), state(3, tower(2, 8)...)},
	}
	for _, p := range pairs {
		calls := map[string]func() []impl.Move{
			"WayToPeg":   func() []impl.Move { way, _ := impl.WayToPeg(p[0], 2); return way },
			"WayBetween": func() []impl.Move { way, _ := impl.WayBetween(p[0], p[1]); return way },
		}
		for name, call := range calls {
			checkOwnMoves(t, name, call)
		}
	}
}
