package tests

import (
	"math/big"
	"math/bits"
	"testing"

	"loop.example/g01321/impl"
)

// Promise 17.

// levelsFrom returns the numbers of states at the distances from a state.
func levelsFrom(t *testing.T, x impl.State) []int64 {
	t.Helper()
	levels, code := impl.LevelsFrom(x)
	wantCode(t, "LevelsFrom", code, impl.ErrNone)
	return levels
}

// levelsSum returns the sum of a power of the distances to all states.
func levelsSum(levels []int64, power int) int64 {
	sum := int64(0)
	for d, states := range levels {
		for range power {
			states *= int64(d)
		}
		sum += states
	}
	return sum
}

func TestPromise17TotalsFollowFromLevels(t *testing.T) {
	for x := range searchedStates() {
		levels := levelsFrom(t, x)
		if total := totalFrom(t, x); total != levelsSum(levels, 1) {
			t.Fatalf("the total of %v is %d, by the levels %v it is %d", x, total, levels, levelsSum(levels, 1))
		}
	}
}

// TestPromise17AveragesAndSpreadsFollowFromLevels has the usual distances, too: no lesser distance has
// as many states, and no greater one has more.
func TestPromise17AveragesAndSpreadsFollowFromLevels(t *testing.T) {
	for x := range searchedStates() {
		levels, count := levelsFrom(t, x), countStates(t, x.Pegs, int64(len(x.Discs)))
		average := big.NewRat(levelsSum(levels, 1), count)
		spread := new(big.Rat).Sub(big.NewRat(levelsSum(levels, 2), count), new(big.Rat).Mul(average, average))
		if p, q, code := impl.AverageFrom(x); (terms{p, q}) != termsOf(average) || code != impl.ErrNone {
			t.Fatalf("the average of %v is %d, %d, by the levels %v it is %v", x, p, q, levels, average)
		}
		if p, q, code := impl.SpreadFrom(x); (terms{p, q}) != termsOf(spread) || code != impl.ErrNone {
			t.Fatalf("the spread of %v is %d, %d, by the levels %v it is %v", x, p, q, levels, spread)
		}
		usual, code := impl.UsualDistance(x)
		wantCode(t, "UsualDistance", code, impl.ErrNone)
		for d, states := range levels {
			if states > levels[usual] || states == levels[usual] && int64(d) < usual {
				t.Fatalf("the usual distance of %v is %d, the levels are %v", x, usual, levels)
			}
		}
	}
}

// TestPromise17TotalsAddUpDistances has all states of graphs with at most 27 states, and searches for
// each of them by itself.
func TestPromise17TotalsAddUpDistances(t *testing.T) {
	for k, n := range shapes() {
		if countStates(t, k, n) > 27 {
			continue
		}
		for _, x := range statesOf(k, n) {
			sum := int64(0)
			for _, y := range statesOf(k, n) {
				distance, code := impl.SearchDistance(x, y)
				wantCode(t, "SearchDistance", code, impl.ErrNone)
				sum += distance
			}
			if total := totalFrom(t, x); total != sum {
				t.Errorf("the total of %v is %d, the distances add up to %d", x, total, sum)
			}
		}
	}
}

func TestPromise17LevelsOfPerfectStatesArePowersOf2(t *testing.T) {
	for n := range int64(impl.MaxDiscs + 1) {
		for peg := range int64(3) {
			levels := levelsFrom(t, perfectOf(t, n, peg))
			if len(levels) != 1<<n {
				t.Fatalf("%d discs on the peg %d have the levels %v", n, peg, levels)
			}
			for d, states := range levels {
				if states < 1 || bits.OnesCount64(uint64(states)) != 1 {
					t.Errorf("%d discs on the peg %d have %d states with the distance %d, which is no power of 2", n, peg, states, d)
				}
				checkNumberOf(t, "StatesAtDistance", impl.StatesAtDistance, n, int64(d), states)
			}
			checkNumber(t, "TotalToPerfect", impl.TotalToPerfect, n, levelsSum(levels, 1))
		}
	}
}

// TestPromise17UsualDistancesOfPerfectStatesAreTheirReaches holds since the greatest distance alone has
// all digits 1.
func TestPromise17UsualDistancesOfPerfectStatesAreTheirReaches(t *testing.T) {
	for n := range int64(impl.MaxDiscs + 1) {
		for peg := range int64(3) {
			x := perfectOf(t, n, peg)
			reach, code := impl.ReachOf(x)
			wantCode(t, "ReachOf", code, impl.ErrNone)
			if usual, code := impl.UsualDistance(x); usual != reach || code != impl.ErrNone {
				t.Errorf("the usual distance of %v is %d, %d, the reach %d", x, usual, code, reach)
			}
		}
	}
}
