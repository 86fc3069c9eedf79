package tests

import (
	"iter"
	"slices"
	"testing"

	"loop.example/g01321/impl"
)

// What chapter 2 returns is held against searches in the graph of all states and against ways by
// recursion; neither calls the program.

// towers has all states of n discs on three pegs by their ranks, and the ranks of the neighbours.
type towers struct {
	states     []impl.State
	neighbours [][]int64
}

func towersOf(n int64) towers {
	var all towers
	for _, x := range statesOf(3, n) {
		var next []int64
		for _, m := range movesByStacks(x) {
			next = append(next, rankBySum(moved(x, m).Discs))
		}
		all.states = append(all.states, x)
		all.neighbours = append(all.neighbours, next)
	}
	return all
}

// rankBySum returns the rank of the state of discs on three pegs.
func rankBySum(discs []int64) int64 {
	rank := int64(0)
	for d := len(discs) - 1; d >= 0; d-- {
		rank = 3*rank + discs[d]
	}
	return rank
}

// search returns, for all ranks, the distance from a state and the number of shortest ways.
func (all towers) search(from int64) ([]int64, []int64) {
	distances, ways := slices.Repeat([]int64{-1}, len(all.states)), make([]int64, len(all.states))
	distances[from], ways[from] = 0, 1
	queue := []int64{from}
	for i := 0; i < len(queue); i++ {
		for _, next := range all.neighbours[queue[i]] {
			if distances[next] < 0 {
				distances[next] = distances[queue[i]] + 1
				queue = append(queue, next)
			}
			if distances[next] == distances[queue[i]]+1 {
				ways[next] += ways[queue[i]]
			}
		}
	}
	return distances, ways
}

// perfect returns the rank of the state with all discs on a peg.
func (all towers) perfect(a int64) int64 {
	return rankBySum(tower(a, int64(len(all.states[0].Discs))))
}

// tower returns the pegs of n discs that are all on one peg.
func tower(a, n int64) []int64 {
	return slices.Repeat([]int64{a}, int(n))
}

// wayByRecursion returns the way that leads discs from their pegs to a peg.
func wayByRecursion(pegs []int64, a int64) []impl.Move {
	if len(pegs) == 0 {
		return nil
	}
	d := int64(len(pegs)) - 1
	if pegs[d] == a {
		return wayByRecursion(pegs[:d], a)
	}
	third := 3 - pegs[d] - a
	way := append(wayByRecursion(pegs[:d], third), move(d, pegs[d], a))
	return append(way, wayByRecursion(tower(third, d), a)...)
}

// backwards returns the moves that take those of a way back.
func backwards(way []impl.Move) []impl.Move {
	var back []impl.Move
	for i := range way {
		m := way[len(way)-1-i]
		back = append(back, move(m.Disc, m.To, m.From))
	}
	return back
}

// waysByRecursion returns, for two different states, the way with one move of the greatest disc on
// different pegs, and that with two moves of it.
func waysByRecursion(x, y impl.State) ([]impl.Move, []impl.Move) {
	d := int64(len(x.Discs)) - 1
	for x.Discs[d] == y.Discs[d] {
		d--
	}
	p, q := x.Discs[d], y.Discs[d]
	r := 3 - p - q
	one := slices.Concat(
		wayByRecursion(x.Discs[:d], r), []impl.Move{move(d, p, q)},
		backwards(wayByRecursion(y.Discs[:d], r)))
	two := slices.Concat(
		wayByRecursion(x.Discs[:d], q), []impl.Move{move(d, p, r)},
		wayByRecursion(tower(q, d), p), []impl.Move{move(d, r, q)},
		backwards(wayByRecursion(y.Discs[:d], p)))
	return one, two
}

// chosenWay returns the chosen way between two states.
func chosenWay(x, y impl.State) []impl.Move {
	if sameState(x, y) {
		return nil
	}
	one, two := waysByRecursion(x, y)
	if len(one) <= len(two) {
		return one
	}
	return two
}

// threePegStates ranges over all states of three pegs.
func threePegStates() iter.Seq[impl.State] {
	return func(yield func(impl.State) bool) {
		for n := range int64(impl.MaxDiscs + 1) {
			for _, x := range statesOf(3, n) {
				if !yield(x) {
					return
				}
			}
		}
	}
}

// threePegPairs ranges over all pairs of states of three pegs with at most four discs, and over some
// pairs with more discs.
func threePegPairs() iter.Seq2[impl.State, impl.State] {
	return func(yield func(impl.State, impl.State) bool) {
		for n := range int64(impl.MaxDiscs + 1) {
			var states []impl.State
			for _, x := range statesOf(3, n) {
				states = append(states, x)
			}
			for i := range states {
				for j := range states {
					if (n <= 4 || isSample(i, j)) && !yield(states[i], states[j]) {
						return
					}
				}
			}
		}
	}
}

// isSample picks ranks of pairs: for some states, a part of all others, and those that have all but
// the four least discs on the same pegs, which are few among all.
func isSample(i, j int) bool {
	return i%41 == 0 && (j%59 == i%59 || j/81 == i/81)
}

// after returns the state after moves, each of which has to be legal.
func after(t *testing.T, x impl.State, moves []impl.Move) impl.State {
	t.Helper()
	for i, m := range moves {
		if m.Disc < 0 || m.Disc >= int64(len(x.Discs)) || !legalByStacks(x, m) {
			t.Fatalf("the move %d of %v is not legal in %v", i, moves, x)
		}
		x = moved(x, m)
	}
	return x
}
