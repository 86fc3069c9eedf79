package tests

import (
	"iter"
	"slices"
	"testing"

	"loop.example/g01321/impl"
)

// What chapter 2 returns is held against searches in the graph of all states and against ways by
// recursion; neither calls the program.

// wayByRecursion returns the way that leads discs from their pegs to a peg.
func wayByRecursion(pegs []int64, a int64) []impl.Move {
	if len(pegs) == 0 {
		return nil
	}
	d := int64(len(pegs)) - 1
	if pegs[d] == a {
		return wayByRecursion(pegs[:d], a)
	}
	third := 3 - pegs[d] - a
	way := append(wayByRecursion(pegs[:d], third), move(d, pegs[d], a))
	return append(way, wayByRecursion(tower(third, d), a)...)
}

// backwards returns the moves that take those of a way back.
func backwards(way []impl.Move) []impl.Move {
	var back []impl.Move
	for i := range way {
		m := way[len(way)-1-i]
		back = append(back, move(m.Disc, m.To, m.From))
	}
	return back
}

// waysByRecursion returns, for two different states, the way with one move of the greatest disc on
// different pegs, and that with two moves of it.
func waysByRecursion(x, y impl.State) ([]impl.Move, []impl.Move) {
	d := int64(len(x.Discs)) - 1
	for x.Discs[d] == y.Discs[d] {
		d--
	}
	p, q := x.Discs[d], y.Discs[d]
	r := 3 - p - q
	one := slices.Concat(
		wayByRecursion(x.Discs[:d], r), []impl.Move{move(d, p, q)},
		backwards(wayByRecursion(y.Discs[:d], r)))
	two := slices.Concat(
		wayByRecursion(x.Discs[:d], q), []impl.Move{move(d, p, r)},
		wayByRecursion(tower(q, d), p), []impl.Move{move(d, r, q)},
		backwards(wayByRecursion(y.Discs[:d], p)))
	return one, two
}

// chosenWay returns the chosen way between two states.
func chosenWay(x, y impl.State) []impl.Move {
	if sameState(x, y) {
		return nil
	}
	one, two := waysByRecursion(x, y)
	if len(one) <= len(two) {
		return one
	}
	return two
}

// threePegStates ranges over all states of three pegs.
func threePegStates() iter.Seq[impl.State] {
	return func(yield func(impl.State) bool) {
		for n := range int64(impl.MaxDiscs + 1) {
			for _, x := range statesOf(3, n) {
				if !yield(x) {
					return
				}
			}
		}
	}
}

// threePegPairs ranges over all pairs of states of three pegs with at most four discs, and over some
// pairs with more discs.
func threePegPairs() iter.Seq2[impl.State, impl.State] {
	return func(yield func(impl.State, impl.State) bool) {
		for n := range int64(impl.MaxDiscs + 1) {
			var states []impl.State
			for _, x := range statesOf(3, n) {
				states = append(states, x)
			}
			for i := range states {
				for j := range states {
					if (n <= 4 || isSample(i, j)) && !yield(states[i], states[j]) {
						return
					}
				}
			}
		}
	}
}

// isSample picks ranks of pairs: for some states, a part of all others, and those that have all but
// the four least discs on the same pegs, which are few among all.
func isSample(i, j int) bool {
	return i%41 == 0 && (j%59 == i%59 || j/81 == i/81)
}

// after returns the state after moves, each of which has to be legal.
func after(t *testing.T, x impl.State, moves []impl.Move) impl.State {
	t.Helper()
	for i, m := range moves {
		if m.Disc < 0 || m.Disc >= int64(len(x.Discs)) || !legalByStacks(x, m) {
			t.Fatalf("the move %d of %v is not legal in %v", i, moves, x)
		}
		x = moved(x, m)
	}
	return x
}
