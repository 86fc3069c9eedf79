package tests

import (
	"testing"

	"loop.example/g01321/impl"
)

// totalCalls returns the functions of chapter 9 that take a state.
func totalCalls() map[string]pathCall {
	return map[string]pathCall{
		"TotalFrom": func(x impl.State, _ int64, _ impl.State) (bool, int64) {
			v, c := impl.TotalFrom(x)
			return v == 0, c
		},
		"AverageFrom": func(x impl.State, _ int64, _ impl.State) (bool, int64) {
			v, w, c := impl.AverageFrom(x)
			return v == 0 && w == 0, c
		},
		"UsualDistance": func(x impl.State, _ int64, _ impl.State) (bool, int64) {
			v, c := impl.UsualDistance(x)
			return v == 0, c
		},
		"SpreadFrom": func(x impl.State, _ int64, _ impl.State) (bool, int64) {
			v, w, c := impl.SpreadFrom(x)
			return v == 0 && w == 0, c
		},
	}
}

// towerTotalCalls returns the functions of chapter 9 that take a number of discs up to MaxDiscs, and,
// some of them, a distance or a disc.
func towerTotalCalls() map[string]shapeCall {
	return map[string]shapeCall{
		"TotalToPerfect":   func(n, _ int64) (bool, int64) { v, c := impl.TotalToPerfect(n); return v == 0, c },
		"StatesAtDistance": func(n, d int64) (bool, int64) { v, c := impl.StatesAtDistance(n, d); return v == 0, c },
		"ShareOfDisc":      func(n, d int64) (bool, int64) { v, c := impl.ShareOfDisc(n, d); return v == 0, c },
		"RulerList":        func(n, _ int64) (bool, int64) { v, c := impl.RulerList(n); return len(v) == 0, c },
	}
}

// grandCalls returns the functions of chapter 9 that take a number of discs up to MaxSearched.
func grandCalls() map[string]shapeCall {
	return map[string]shapeCall{
		"GrandTotal":   func(n, _ int64) (bool, int64) { v, c := impl.GrandTotal(n); return v == 0, c },
		"GrandAverage": func(n, _ int64) (bool, int64) { v, w, c := impl.GrandAverage(n); return v == 0 && w == 0, c },
	}
}

func TestTotalsOfNoStates(t *testing.T) {
	for why, x := range noStates() {
		for name, call := range totalCalls() {
			checkError(t, name+" of "+why, call, x, 0, impl.State{}, impl.ErrInvalid)
		}
	}
}

// TestTotalsWithoutErrors has the perfect states of all numbers of pegs and discs.
func TestTotalsWithoutErrors(t *testing.T) {
	for k, n := range shapes() {
		for peg := range k {
			for name, call := range totalCalls() {
				_, code := call(state(k, tower(peg, n)...), 0, impl.State{})
				wantCode(t, name, code, impl.ErrNone)
			}
		}
	}
}

// TestTotalsOfNoTowers has distances and discs that some numbers of discs have, and ones that none
// has.
func TestTotalsOfNoTowers(t *testing.T) {
	for _, calls := range []map[string]shapeCall{towerTotalCalls(), grandCalls()} {
		for name, call := range calls {
			for _, n := range noDiscNumbers() {
				for _, second := range append(oddNumbers(), 0, 1, 2, 255, 256) {
					checkShape(t, name, call, n, second, impl.ErrRange)
				}
			}
		}
	}
}

// TestLimitOfGrandTotals has the numbers of discs between MaxSearched and MaxDiscs, too, of which only
// grand totals are refused.
func TestLimitOfGrandTotals(t *testing.T) {
	for n := range int64(impl.MaxDiscs + 1) {
		for name, call := range towerTotalCalls() {
			want := int64(impl.ErrNone)
			if name == "ShareOfDisc" && n == 0 {
				want = impl.ErrRange
			}
			checkShape(t, name, call, n, 0, want)
		}
		want := int64(impl.ErrNone)
		if n > impl.MaxSearched {
			want = impl.ErrRange
		}
		for name, call := range grandCalls() {
			checkShape(t, name, call, n, 0, want)
		}
	}
}

// TestDistancesOfTowersOutOfRange has the least and the greatest distance of all numbers of discs, and
// the numbers beside them.
func TestDistancesOfTowersOutOfRange(t *testing.T) {
	call := towerTotalCalls()["StatesAtDistance"]
	for n := range int64(impl.MaxDiscs + 1) {
		count := int64(1) << n
		for _, d := range append(oddNumbers(), count, count+1, 2*count, 256, 1<<62) {
			checkShape(t, "StatesAtDistance", call, n, d, impl.ErrRange)
		}
		checkShape(t, "StatesAtDistance", call, n, 0, impl.ErrNone)
		checkShape(t, "StatesAtDistance", call, n, count-1, impl.ErrNone)
	}
}

// TestDiscsOfTowersOutOfRange has the least and the greatest disc of all numbers of discs, and the
// numbers beside them. Of no discs there is none.
func TestDiscsOfTowersOutOfRange(t *testing.T) {
	call := towerTotalCalls()["ShareOfDisc"]
	for n := range int64(impl.MaxDiscs + 1) {
		for _, d := range append(oddNumbers(), n, n+1, 8, 9, 64, 256, 1<<62) {
			checkShape(t, "ShareOfDisc", call, n, d, impl.ErrRange)
		}
		if n > 0 {
			checkShape(t, "ShareOfDisc", call, n, 0, impl.ErrNone)
			checkShape(t, "ShareOfDisc", call, n, n-1, impl.ErrNone)
		}
	}
}

func TestDigitNumbersOutOfRange(t *testing.T) {
	call := func(d, _ int64) (bool, int64) { v, c := impl.DigitNumber(d); return v == 0, c }
	for _, d := range append(oddNumbers(), 1000000001, 1000000002, 1<<30, 2000000000, 10000000000, 1<<62, -1000000000) {
		checkShape(t, "DigitNumber", call, d, 0, impl.ErrRange)
	}
	for _, d := range []int64{0, 1, 999999999, 1000000000} {
		checkShape(t, "DigitNumber", call, d, 0, impl.ErrNone)
	}
}
