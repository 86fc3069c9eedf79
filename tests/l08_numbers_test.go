package tests

import (
	"math"
	"slices"
	"testing"

	"loop.example/g01321/impl"
)

// Presumed numbers, splits, parts, steps, formulas, and towers within a number of moves.

// numbersCase has the list of numbers that belongs to p and n.
type numbersCase struct {
	p, n int64
	want []int64
}

// checkNumbersCase fails if a call does not return the list of numbers of a case.
func checkNumbersCase(t *testing.T, name string, call func(p, n int64) ([]int64, int64), c numbersCase) {
	t.Helper()
	if numbers, code := call(c.p, c.n); !slices.Equal(numbers, c.want) || code != impl.ErrNone {
		t.Errorf("%s(%d, %d) = %v, %d, want %v", name, c.p, c.n, numbers, code, c.want)
	}
}

// checkNumberOf fails if a call does not return the wanted number of p and n.
func checkNumberOf(t *testing.T, name string, call func(p, n int64) (int64, int64), p, n, want int64) {
	t.Helper()
	if number, code := call(p, n); number != want || code != impl.ErrNone {
		t.Errorf("%s(%d, %d) = %d, %d, want %d", name, p, n, number, code, want)
	}
}

func TestPresumedLimits(t *testing.T) {
	if impl.MaxPegs != 10 || impl.MaxTower != 60 {
		t.Errorf("MaxPegs is %d, MaxTower %d, want 10 and 60", impl.MaxPegs, impl.MaxTower)
	}
}

func TestPresumedNumberByHand(t *testing.T) {
	rows := map[int64][]int64{
		3:  {0, 1, 3, 7, 15, 31, 63, 127, 255, 511, 1023},
		4:  {0, 1, 3, 5, 9, 13, 17, 25, 33, 41, 49, 65, 81, 97, 113, 129, 161},
		5:  {0, 1, 3, 5, 7, 11, 15, 19, 23, 27, 31, 39, 47, 55, 63, 71, 79, 87, 95, 103, 111, 127},
		6:  {0, 1, 3, 5, 7, 9, 13, 17, 21, 25, 29, 33, 37, 41, 45, 49, 57},
		10: {0, 1, 3, 5, 7, 9, 11, 13, 15, 17, 21, 25, 29},
	}
	for p, row := range rows {
		for n, want := range row {
			checkNumberOf(t, "PresumedNumber", impl.PresumedNumber, p, int64(n), want)
		}
	}
	greatest := map[int64]int64{3: 1152921504606846975, 4: 14337, 5: 1279, 6: 609, 10: 281}
	for p, want := range greatest {
		checkNumberOf(t, "PresumedNumber", impl.PresumedNumber, p, impl.MaxTower, want)
	}
}

func TestPresumedNumber(t *testing.T) {
	numbers := presumedNumbers()
	for p, n := range presumedSizes() {
		want := numbers[pegsAndDiscs{p, n}]
		checkNumberOf(t, "PresumedNumber", impl.PresumedNumber, p, n, want)
	}
}

// TestPresumedNumbersAreLeastNumbers searches from the tower on the first peg to the one on the last
// peg, for all towers that have states: there the presumed numbers are the least ones.
func TestPresumedNumbersAreLeastNumbers(t *testing.T) {
	for k, n := range shapes() {
		all := towersOf(k, n)
		distances, _ := all.search(all.perfect(0))
		want := distances[all.perfect(k-1)]
		checkNumberOf(t, "PresumedNumber", impl.PresumedNumber, k, n, want)
	}
}

func TestPresumedSplitsByHand(t *testing.T) {
	cases := []numbersCase{
		{4, 2, []int64{1}},
		{4, 3, []int64{1}},
		{4, 4, []int64{1, 2}},
		{4, 5, []int64{2, 3}},
		{4, 6, []int64{3}},
		{4, 8, []int64{4, 5}},
		{4, 60, []int64{49, 50}},
		{5, 4, []int64{1}},
		{5, 5, []int64{1, 2}},
		{5, 7, []int64{1, 2, 3, 4}},
		{5, 8, []int64{2, 3, 4}},
		{5, 60, []int64{35, 36, 37, 38, 39}},
		{10, 2, []int64{1}},
		{10, 9, []int64{1}},
		{10, 10, []int64{1, 2}},
		{10, 60, []int64{9, 10, 11, 12, 13, 14, 15, 16, 17, 18, 19, 20, 21, 22, 23, 24}},
	}
	for _, c := range cases {
		checkNumbersCase(t, "PresumedSplits", impl.PresumedSplits, c)
	}
}

func TestPresumedSplits(t *testing.T) {
	numbers := presumedNumbers()
	for p, n := range presumedSizes() {
		if p == 3 || n < 2 {
			continue
		}
		want := splitsOf(numbers, p, n)
		checkNumbersCase(t, "PresumedSplits", impl.PresumedSplits, numbersCase{p, n, want})
	}
}

func TestPresumedPartsByHand(t *testing.T) {
	cases := []numbersCase{
		{3, 0, []int64{0}},
		{3, 1, []int64{1}},
		{3, 2, []int64{2}},
		{3, 60, []int64{60}},
		{4, 0, []int64{0}},
		{4, 1, []int64{1}},
		{4, 2, []int64{1, 1}},
		{4, 4, []int64{1, 3}},
		{4, 8, []int64{4, 4}},
		{4, 60, []int64{49, 11}},
		{5, 2, []int64{1, 1}},
		{5, 3, []int64{1, 1, 1}},
		{5, 8, []int64{2, 3, 3}},
		{5, 36, []int64{20, 10, 6}},
		{10, 0, []int64{0}},
		{10, 1, []int64{1}},
		{10, 2, []int64{1, 1}},
		{10, 8, []int64{1, 1, 1, 1, 1, 1, 1, 1}},
		{10, 9, []int64{1, 1, 1, 1, 1, 1, 1, 2}},
		{10, 60, []int64{9, 8, 7, 6, 10, 10, 6, 4}},
	}
	for _, c := range cases {
		checkNumbersCase(t, "PresumedParts", impl.PresumedParts, c)
	}
}

func TestPresumedParts(t *testing.T) {
	numbers := presumedNumbers()
	for p, n := range presumedSizes() {
		want := partsOfPresumed(numbers, p, n)
		checkNumbersCase(t, "PresumedParts", impl.PresumedParts, numbersCase{p, n, want})
	}
}

func TestPresumedStepsByHand(t *testing.T) {
	cases := []numbersCase{
		{3, 0, nil},
		{3, 1, []int64{1}},
		{3, 2, []int64{1, 2}},
		{3, 5, []int64{1, 2, 4, 8, 16}},
		{4, 0, nil},
		{4, 1, []int64{1}},
		{4, 2, []int64{1, 2}},
		{4, 11, []int64{1, 2, 2, 4, 4, 4, 8, 8, 8, 8, 16}},
		{5, 11, []int64{1, 2, 2, 2, 4, 4, 4, 4, 4, 4, 8}},
		{10, 0, nil},
		{10, 2, []int64{1, 2}},
		{10, 10, []int64{1, 2, 2, 2, 2, 2, 2, 2, 2, 4}},
	}
	for _, c := range cases {
		checkNumbersCase(t, "PresumedSteps", impl.PresumedSteps, c)
	}
}

func TestPresumedSteps(t *testing.T) {
	numbers := presumedNumbers()
	for p, n := range presumedSizes() {
		var want []int64
		for i := int64(1); i <= n; i++ {
			want = append(want, numbers[pegsAndDiscs{p, i}]-numbers[pegsAndDiscs{p, i - 1}])
		}
		checkNumbersCase(t, "PresumedSteps", impl.PresumedSteps, numbersCase{p, n, want})
	}
}

func TestFormulaNumberByHand(t *testing.T) {
	cases := []struct{ p, n, want int64 }{
		{3, 0, 0}, {3, 1, 1}, {3, 2, 3}, {3, 8, 255}, {3, 60, 1152921504606846975},
		{4, 0, 0}, {4, 1, 1}, {4, 2, 3}, {4, 8, 33}, {4, 60, 14337},
		{5, 0, 0}, {5, 4, 7}, {5, 5, 11}, {5, 60, 1279},
		{10, 0, 0}, {10, 1, 1}, {10, 2, 3}, {10, 9, 17}, {10, 10, 21}, {10, 45, 161}, {10, 46, 169}, {10, 60, 281},
	}
	for _, c := range cases {
		checkNumberOf(t, "FormulaNumber", impl.FormulaNumber, c.p, c.n, c.want)
	}
}

func TestFormulaNumber(t *testing.T) {
	for p, n := range presumedSizes() {
		want := formulaByCounting(p, n)
		checkNumberOf(t, "FormulaNumber", impl.FormulaNumber, p, n, want)
	}
}

func TestTowerWithinByHand(t *testing.T) {
	cases := []struct{ p, m, want int64 }{
		{3, 0, 0}, {3, 1, 1}, {3, 2, 1}, {3, 3, 2}, {3, 6, 2}, {3, 7, 3}, {3, 8, 3},
		{3, 1<<60 - 2, 59}, {3, 1<<60 - 1, 60}, {3, 1 << 60, 60}, {3, math.MaxInt64, 60},
		{4, 0, 0}, {4, 4, 2}, {4, 5, 3}, {4, 32, 7}, {4, 33, 8}, {4, 34, 8}, {4, 14336, 59}, {4, 14337, 60}, {4, math.MaxInt64, 60},
		{10, 0, 0}, {10, 1, 1}, {10, 2, 1}, {10, 280, 59}, {10, 281, 60}, {10, 282, 60}, {10, math.MaxInt64, 60},
	}
	for _, c := range cases {
		checkNumberOf(t, "TowerWithin", impl.TowerWithin, c.p, c.m, c.want)
	}
}

// TestTowerWithin has all presumed numbers, and one less and one more than they are. One more than that
// of no disc is that of one disc; from one disc on, presumed numbers are at least 2 apart.
func TestTowerWithin(t *testing.T) {
	numbers := presumedNumbers()
	for p, n := range presumedSizes() {
		number := numbers[pegsAndDiscs{p, n}]
		checkNumberOf(t, "TowerWithin", impl.TowerWithin, p, number, n)
		if n > 0 {
			checkNumberOf(t, "TowerWithin", impl.TowerWithin, p, number-1, n-1)
			checkNumberOf(t, "TowerWithin", impl.TowerWithin, p, number+1, n)
		}
	}
}

// TestTowerWithinFewMoves counts up all numbers of moves.
func TestTowerWithinFewMoves(t *testing.T) {
	numbers := presumedNumbers()
	for p := int64(3); p <= impl.MaxPegs; p++ {
		want := int64(0)
		for m := range int64(700) {
			for want < impl.MaxTower && numbers[pegsAndDiscs{p, want + 1}] <= m {
				want++
			}
			checkNumberOf(t, "TowerWithin", impl.TowerWithin, p, m, want)
		}
	}
}
