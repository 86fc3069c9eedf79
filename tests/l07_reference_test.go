package tests

import (
	"iter"
	"math"
	"slices"
	"testing"

	"loop.example/g01321/impl"
)

// What chapter 7 returns is held against recursions and searches that go through all rules, and that
// do not call the program.

// pegPairs returns all pairs of different pegs.
func pegPairs() [][2]int64 {
	return [][2]int64{{0, 1}, {0, 2}, {1, 0}, {1, 2}, {2, 0}, {2, 1}}
}

// rulesWith returns the rules with some directions.
func rulesWith(pairs ...[2]int64) impl.Rules {
	var r impl.Rules
	for _, pair := range pairs {
		r[pair[0]][pair[1]] = 1
	}
	return r
}

// allRules returns the rules with each choice of directions: those with none are the first ones, and
// those with all are the last ones.
func allRules() []impl.Rules {
	lists := []impl.Rules{{}}
	for _, pair := range pegPairs() {
		for _, r := range slices.Clone(lists) {
			r[pair[0]][pair[1]] = 1
			lists = append(lists, r)
		}
	}
	return lists
}

// strongRules returns the rules in which one can go on from each peg to both other ones.
func strongRules() []impl.Rules {
	return slices.DeleteFunc(allRules(), func(r impl.Rules) bool { return !isStrong(r) })
}

// isStrong reports whether one can go on from each peg until all pegs have been met.
func isStrong(r impl.Rules) bool {
	for peg := range int64(3) {
		if len(pegsFrom(r, peg)) != 3 {
			return false
		}
	}
	return true
}

// pegsFrom returns the pegs that can be reached from a peg, which is the first one, by allowed
// directions.
func pegsFrom(r impl.Rules, peg int64) []int64 {
	met := []int64{peg}
	for i := 0; i < len(met); i++ {
		for to := range int64(3) {
			if r[met[i]][to] == 1 && !slices.Contains(met, to) {
				met = append(met, to)
			}
		}
	}
	return met
}

// namedRules returns the rules with names, by these.
func namedRules() map[string]impl.Rules {
	return map[string]impl.Rules{
		"all":    rulesWith(pegPairs()...),
		"cyclic": rulesWith([2]int64{0, 1}, [2]int64{1, 2}, [2]int64{2, 0}),
		"linear": rulesWith([2]int64{0, 1}, [2]int64{1, 0}, [2]int64{1, 2}, [2]int64{2, 1}),
		"plus":   rulesWith([2]int64{0, 1}, [2]int64{1, 2}, [2]int64{2, 0}, [2]int64{1, 0}),
		"near":   rulesWith([2]int64{0, 1}, [2]int64{1, 0}, [2]int64{1, 2}, [2]int64{2, 0}, [2]int64{2, 1}),
	}
}

// noRules returns arrays that are no rules: one number of some rules is neither 0 nor 1, or one at
// i, i is 1.
func noRules() []impl.Rules {
	var lists []impl.Rules
	for _, r := range []impl.Rules{{}, rulesWith([2]int64{0, 1}), rulesWith(pegPairs()...)} {
		for i := range r {
			for j := range r[i] {
				for _, odd := range append(oddNumbers(), 2, 3, 256, 257, 1<<32+1) {
					changed := r
					changed[i][j] = odd
					lists = append(lists, changed)
				}
			}
			changed := r
			changed[i][i] = 1
			lists = append(lists, changed)
		}
	}
	return lists
}

// legalByRules reports whether a move is legal by rules.
func legalByRules(r impl.Rules, x impl.State, m impl.Move) bool {
	if m.Disc < 0 || m.Disc >= int64(len(x.Discs)) || !legalByStacks(x, m) {
		return false
	}
	return slices.Contains(pegPairs(), [2]int64{m.From, m.To}) && r[m.From][m.To] == 1
}

// movesOfRules returns the moves that are legal by rules, in their order.
func movesOfRules(r impl.Rules, x impl.State) []impl.Move {
	return slices.DeleteFunc(movesByStacks(x), func(m impl.Move) bool { return r[m.From][m.To] != 1 })
}

// movesOfAll returns the legal moves of towers, by their ranks.
func (all towers) movesOfAll() [][]impl.Move {
	var moves [][]impl.Move
	for _, x := range all.states {
		moves = append(moves, movesByStacks(x))
	}
	return moves
}

// neighboursBy returns, for the ranks of towers of three pegs, the ranks behind those of all moves
// that are legal by rules.
func (all towers) neighboursBy(r impl.Rules, moves [][]impl.Move) [][]int64 {
	neighbours := make([][]int64, len(moves))
	for rank := range moves {
		for i, m := range moves[rank] {
			if r[m.From][m.To] == 1 {
				neighbours[rank] = append(neighbours[rank], all.neighbours[rank][i])
			}
		}
	}
	return neighbours
}

// ruledSearch has the distances by rules from the state of a rank to all states, by their ranks, and
// -1 where no moves lead.
type ruledSearch struct {
	all       towers
	from      int64
	distances []int64
}

// ruledSearches ranges over all rules with searches from all states of at most four discs, and from
// four states of more: a perfect one and others.
func ruledSearches() iter.Seq2[impl.Rules, ruledSearch] {
	return func(yield func(impl.Rules, ruledSearch) bool) {
		for n := range int64(impl.MaxDiscs + 1) {
			all := towersOf(3, n)
			moves, count := all.movesOfAll(), int64(len(all.states))
			for _, r := range allRules() {
				neighbours := all.neighboursBy(r, moves)
				for from := range count {
					if count > 81 && from%((count-1)/3) != 0 {
						continue
					}
					distances, _ := search(neighbours, from)
					if !yield(r, ruledSearch{all: all, from: from, distances: distances}) {
						return
					}
				}
			}
		}
	}
}

// leastByRecursion returns the least moves of n discs, which are as many as their number: of both
// ways the shorter one, and with equal numbers the first one.
func leastByRecursion(r impl.Rules, n, i, j int64) []impl.Move {
	if n == 0 {
		return nil
	}
	k := 3 - i - j
	var first, second []impl.Move
	if r[i][j] == 1 {
		first = slices.Concat(leastByRecursion(r, n-1, i, k), []impl.Move{move(n-1, i, j)}, leastByRecursion(r, n-1, k, j))
	}
	if r[i][k] == 1 && r[k][j] == 1 {
		across := leastByRecursion(r, n-1, i, j)
		second = slices.Concat(across, []impl.Move{move(n-1, i, k)}, leastByRecursion(r, n-1, j, i), []impl.Move{move(n-1, k, j)}, across)
	}
	if first == nil || second != nil && len(second) < len(first) {
		return second
	}
	return first
}

// numberByRecursion returns c(n, i, j) by strong rules.
func numberByRecursion(r impl.Rules, n, i, j int64) int64 {
	if n == 0 {
		return 0
	}
	k := 3 - i - j
	least := int64(math.MaxInt64)
	if r[i][j] == 1 {
		least = numberByRecursion(r, n-1, i, k) + 1 + numberByRecursion(r, n-1, k, j)
	}
	if r[i][k] == 1 && r[k][j] == 1 {
		least = min(least, 2*numberByRecursion(r, n-1, i, j)+numberByRecursion(r, n-1, j, i)+2)
	}
	return least
}

// named returns the rules with a name, which there have to be.
func named(t *testing.T, name string) impl.Rules {
	t.Helper()
	r, code := impl.NamedRules(name)
	wantCode(t, "NamedRules of "+name, code, impl.ErrNone)
	return r
}
