package tests

import (
	"math/big"
	"testing"

	"loop.example/g01321/impl"
)

// Promise 9, with the guarantee of chapter 9.

// totalFrom returns the total of a state.
func totalFrom(t *testing.T, x impl.State) int64 {
	t.Helper()
	total, code := impl.TotalFrom(x)
	wantCode(t, "TotalFrom", code, impl.ErrNone)
	return total
}

// grandTotal returns the grand total of n discs.
func grandTotal(t *testing.T, n int64) int64 {
	t.Helper()
	total, code := impl.GrandTotal(n)
	wantCode(t, "GrandTotal", code, impl.ErrNone)
	return total
}

// shareOfDisc returns the share of a disc.
func shareOfDisc(t *testing.T, n, d int64) int64 {
	t.Helper()
	share, code := impl.ShareOfDisc(n, d)
	wantCode(t, "ShareOfDisc", code, impl.ErrNone)
	return share
}

// rulerList returns the ruler list of n.
func rulerList(t *testing.T, n int64) []int64 {
	t.Helper()
	list, code := impl.RulerList(n)
	wantCode(t, "RulerList", code, impl.ErrNone)
	return list
}

// statesAtDistance returns the number of states of n discs with a distance.
func statesAtDistance(t *testing.T, n, d int64) int64 {
	t.Helper()
	states, code := impl.StatesAtDistance(n, d)
	wantCode(t, "StatesAtDistance", code, impl.ErrNone)
	return states
}

// countStates returns the number of states of n discs on k pegs.
func countStates(t *testing.T, k, n int64) int64 {
	t.Helper()
	count, code := impl.CountStates(k, n)
	wantCode(t, "CountStates", code, impl.ErrNone)
	return count
}

func TestPromise9SharesAddUp(t *testing.T) {
	for n := range int64(impl.MaxDiscs + 1) {
		sum := int64(0)
		for d := range n {
			sum += shareOfDisc(t, n, d)
		}
		if sum != 1<<n-1 {
			t.Errorf("the shares of %d discs add up to %d", n, sum)
		}
	}
}

func TestPromise9GrandTotalsAddUpTotals(t *testing.T) {
	for n := range int64(impl.MaxSearched + 1) {
		sum := int64(0)
		for _, x := range statesOf(3, n) {
			sum += totalFrom(t, x)
		}
		if total := grandTotal(t, n); total != sum {
			t.Errorf("the grand total of %d discs is %d, the totals add up to %d", n, total, sum)
		}
	}
}

// TestPromise9GrandAveragesAreAveragesOfAverages also divides grand totals by the numbers of pairs.
func TestPromise9GrandAveragesAreAveragesOfAverages(t *testing.T) {
	for n := range int64(impl.MaxSearched + 1) {
		count, sum := countStates(t, 3, n), new(big.Rat)
		for _, x := range statesOf(3, n) {
			p, q, code := impl.AverageFrom(x)
			wantCode(t, "AverageFrom", code, impl.ErrNone)
			sum.Add(sum, big.NewRat(p, q))
		}
		averages := sum.Quo(sum, big.NewRat(count, 1))
		checkGrandAverage(t, n, termsOf(averages))
		checkGrandAverage(t, n, termsOf(big.NewRat(grandTotal(t, n), count*count)))
	}
}

func TestPromise9TotalsOfPerfectStatesFollowFromStatesAtDistances(t *testing.T) {
	for n := range int64(impl.MaxDiscs + 1) {
		sum, states := int64(0), int64(0)
		for d := range int64(1) << n {
			number := statesAtDistance(t, n, d)
			sum += d * number
			states += number
		}
		checkNumber(t, "TotalToPerfect", impl.TotalToPerfect, n, sum)
		if count := countStates(t, 3, n); states != count {
			t.Errorf("%d discs have %d states, %d at distances", n, count, states)
		}
		for peg := range int64(3) {
			if total := totalFrom(t, perfectOf(t, n, peg)); total != sum {
				t.Errorf("the total of %d discs on the peg %d is %d, by states at distances %d", n, peg, total, sum)
			}
		}
	}
}

func TestPromise9StatesAtDistancesArePowersByDigits(t *testing.T) {
	for n := range int64(impl.MaxDiscs + 1) {
		for d := range int64(1) << n {
			digits, code := impl.DigitNumber(d)
			wantCode(t, "DigitNumber", code, impl.ErrNone)
			if states := statesAtDistance(t, n, d); states != 1<<digits {
				t.Errorf("%d discs have %d states with the distance %d, which has %d digits 1", n, states, d, digits)
			}
		}
	}
}

// TestPromise9SharesAreCountsOfRulerLists finds nothing else in ruler lists than discs.
func TestPromise9SharesAreCountsOfRulerLists(t *testing.T) {
	for n := range int64(impl.MaxDiscs + 1) {
		list := rulerList(t, n)
		left := len(list)
		for d := range n {
			times := len(ranksWith(list, d))
			left -= times
			if share := shareOfDisc(t, n, d); share != int64(times) {
				t.Errorf("the share of the disc %d of %d is %d, it is %d times in the ruler list", d, n, share, times)
			}
		}
		if left != 0 || len(list) != 1<<n-1 {
			t.Errorf("the ruler list of %d has %d numbers, %d of them no discs", n, len(list), left)
		}
	}
}

// TestPromise9RenamedStatesHaveTheSameTotals has all states of at most three discs.
func TestPromise9RenamedStatesHaveTheSameTotals(t *testing.T) {
	for k, n := range shapes() {
		if n > 3 {
			continue
		}
		for _, x := range statesOf(k, n) {
			total := totalFrom(t, x)
			for _, list := range permutations(k) {
				y, code := impl.RenamePegs(x, list)
				wantCode(t, "RenamePegs", code, impl.ErrNone)
				if other := totalFrom(t, y); other != total {
					t.Fatalf("the total of %v is %d, that of %v is %d", x, total, y, other)
				}
			}
		}
	}
}
