package tests

import (
	"slices"
	"testing"

	"loop.example/g01321/impl"
)

// Presumed lists of moves.

func TestPresumedMovesByHand(t *testing.T) {
	cases := []struct {
		p, n int64
		want []impl.Move
	}{
		{3, 0, nil},
		{3, 1, wayOfTexts("0:0>2")},
		{3, 2, wayOfTexts("0:0>1", "1:0>2", "0:1>2")},
		{3, 3, wayOfTexts("0:0>2", "1:0>1", "0:2>1", "2:0>2", "0:1>0", "1:1>2", "0:0>2")},
		{4, 0, nil},
		{4, 1, wayOfTexts("0:0>3")},
		{4, 2, wayOfTexts("0:0>1", "1:0>3", "0:1>3")},
		{4, 3, wayOfTexts("0:0>1", "1:0>2", "2:0>3", "1:2>3", "0:1>3")},
		{4, 4, wayOfTexts("0:0>1", "1:0>3", "2:0>2", "1:3>2", "3:0>3", "1:2>0", "2:2>3", "1:0>3", "0:1>3")},
		{4, 5, wayOfTexts("0:0>2", "1:0>1", "0:2>1", "2:0>3", "3:0>2", "2:3>2", "4:0>3", "2:2>0", "3:2>3", "2:0>3", "0:1>0", "1:1>3", "0:0>3")},
		{5, 0, nil},
		{5, 1, wayOfTexts("0:0>4")},
		{5, 2, wayOfTexts("0:0>1", "1:0>4", "0:1>4")},
		{5, 3, wayOfTexts("0:0>1", "1:0>2", "2:0>4", "1:2>4", "0:1>4")},
		{5, 4, wayOfTexts("0:0>1", "1:0>2", "2:0>3", "3:0>4", "2:3>4", "1:2>4", "0:1>4")},
		{5, 5, wayOfTexts("0:0>1", "1:0>2", "2:0>4", "3:0>3", "2:4>3", "4:0>4", "2:3>0", "3:3>4", "2:0>4", "1:2>4", "0:1>4")},
		{5, 8, wayOfTexts(
			"0:0>2", "1:0>1", "0:2>1",
			"2:0>3", "3:0>4", "4:0>2", "3:4>2", "2:3>2",
			"5:0>4", "6:0>3", "5:4>3", "7:0>4", "5:3>0", "6:3>4", "5:0>4",
			"2:2>0", "3:2>3", "4:2>4", "3:3>4", "2:0>4",
			"0:1>0", "1:1>4", "0:0>4")},
	}
	for _, c := range cases {
		if moves, code := impl.PresumedMoves(c.p, c.n); !slices.Equal(moves, c.want) || code != impl.ErrNone {
			t.Errorf("PresumedMoves(%d, %d) = %v, %d, want %v", c.p, c.n, moves, code, c.want)
		}
	}
}

func TestPresumedMoves(t *testing.T) {
	numbers := presumedNumbers()
	for p, n := range listSizes() {
		want := listOfPresumed(numbers, p, n)
		if moves, code := impl.PresumedMoves(p, n); !slices.Equal(moves, want) || code != impl.ErrNone {
			t.Errorf("PresumedMoves(%d, %d) = %v, %d, want %v", p, n, moves, code, want)
		}
	}
}

// TestPresumedMovesByStacks does the moves of all lists, one after the other, those of towers that
// have no states of chapter 1, too.
func TestPresumedMovesByStacks(t *testing.T) {
	for p, n := range listSizes() {
		moves, code := impl.PresumedMoves(p, n)
		wantCode(t, "PresumedMoves", code, impl.ErrNone)
		x := state(p, tower(0, n)...)
		for place, m := range moves {
			if !legalByStacks(x, m) {
				t.Fatalf("PresumedMoves(%d, %d): the move %v at %d is not legal in %v", p, n, m, place, x)
			}
			x = moved(x, m)
		}
		if !sameState(x, state(p, tower(p-1, n)...)) {
			t.Errorf("PresumedMoves(%d, %d) lead to %v", p, n, x)
		}
	}
}
