package tests

import (
	"math/bits"
	"testing"

	"loop.example/g01321/impl"
)

// Promise 8, with the guarantee of chapter 8.

// presumedNumber returns F(p, n).
func presumedNumber(t *testing.T, p, n int64) int64 {
	t.Helper()
	number, code := impl.PresumedNumber(p, n)
	wantCode(t, "PresumedNumber", code, impl.ErrNone)
	return number
}

// presumedParts returns the parts of p and n.
func presumedParts(t *testing.T, p, n int64) []int64 {
	t.Helper()
	parts, code := impl.PresumedParts(p, n)
	wantCode(t, "PresumedParts", code, impl.ErrNone)
	return parts
}

// presumedSteps returns the steps of p and 1, .., n.
func presumedSteps(t *testing.T, p, n int64) []int64 {
	t.Helper()
	steps, code := impl.PresumedSteps(p, n)
	wantCode(t, "PresumedSteps", code, impl.ErrNone)
	return steps
}

// sumOf returns the sum of numbers.
func sumOf(numbers []int64) int64 {
	sum := int64(0)
	for _, number := range numbers {
		sum += number
	}
	return sum
}

func TestPromise8FormulasTellPresumedNumbers(t *testing.T) {
	for p, n := range presumedSizes() {
		formula, code := impl.FormulaNumber(p, n)
		wantCode(t, "FormulaNumber", code, impl.ErrNone)
		if number := presumedNumber(t, p, n); number != formula {
			t.Errorf("the presumed number of %d and %d is %d, the formula tells %d", p, n, number, formula)
		}
	}
}

func TestPromise8StepsArePowersOf2ThatDoNotFall(t *testing.T) {
	for p, n := range presumedSizes() {
		steps := presumedSteps(t, p, n)
		for place, step := range steps {
			if step <= 0 || bits.OnesCount64(uint64(step)) != 1 {
				t.Errorf("the step of %d and %d is %d, which is no power of 2", p, place+1, step)
			}
			if place > 0 && step < steps[place-1] {
				t.Errorf("the steps of %d fall from %d to %d at %d", p, steps[place-1], step, place+1)
			}
		}
	}
}

// TestPromise8StepsAddUpToPresumedNumbers has as many steps as discs, too.
func TestPromise8StepsAddUpToPresumedNumbers(t *testing.T) {
	for p, n := range presumedSizes() {
		steps := presumedSteps(t, p, n)
		if number := presumedNumber(t, p, n); sumOf(steps) != number || int64(len(steps)) != n {
			t.Errorf("the steps of %d and %d are %v, which do not add up to %d", p, n, steps, number)
		}
	}
}

func TestPromise8PartsAddUpToTheDiscs(t *testing.T) {
	for p, n := range presumedSizes() {
		if parts := presumedParts(t, p, n); sumOf(parts) != n || len(parts) == 0 || int64(len(parts)) > p-2 {
			t.Errorf("the parts of %d and %d are %v", p, n, parts)
		}
	}
}

// TestPromise8PartsTellPresumedNumbers has all parts but the last one led away and back, each with one
// peg fewer than the one before it.
func TestPromise8PartsTellPresumedNumbers(t *testing.T) {
	for p, n := range presumedSizes() {
		parts := presumedParts(t, p, n)
		last := len(parts) - 1
		sum := presumedNumber(t, p-int64(last), parts[last])
		for place, part := range parts[:last] {
			sum += 2 * presumedNumber(t, p-int64(place), part)
		}
		if number := presumedNumber(t, p, n); number != sum {
			t.Errorf("the parts of %d and %d are %v with %d moves, not %d", p, n, parts, sum, number)
		}
	}
}

// TestPromise8SplitsTellPresumedNumbers has all numbers of discs that may make way: splits are those
// that take as many moves as presumed, and others take more.
func TestPromise8SplitsTellPresumedNumbers(t *testing.T) {
	for p, n := range presumedSizes() {
		if p == 3 || n < 2 {
			continue
		}
		splits, code := impl.PresumedSplits(p, n)
		wantCode(t, "PresumedSplits", code, impl.ErrNone)
		place, number := 0, presumedNumber(t, p, n)
		for k := int64(1); k < n; k++ {
			isSplit := place < len(splits) && splits[place] == k
			if isSplit {
				place++
			}
			sum := 2*presumedNumber(t, p, k) + presumedNumber(t, p-1, n-k)
			if sum < number || isSplit != (sum == number) {
				t.Errorf("the splits of %d and %d are %v, %d has the number %d, presumed is %d", p, n, splits, k, sum, number)
			}
		}
		if place == 0 || place != len(splits) {
			t.Errorf("the splits of %d and %d are %v", p, n, splits)
		}
	}
}

func TestPromise8TowersWithinPresumedNumbers(t *testing.T) {
	for p, n := range presumedSizes() {
		within, code := impl.TowerWithin(p, presumedNumber(t, p, n))
		if within != n || code != impl.ErrNone {
			t.Errorf("within the presumed number of %d and %d the greatest tower has %d discs, %d", p, n, within, code)
		}
	}
}

func TestPromise8MorePegsTakeNoMoreMoves(t *testing.T) {
	for p, n := range presumedSizes() {
		if p > 3 && presumedNumber(t, p, n) > presumedNumber(t, p-1, n) {
			t.Errorf("the presumed number of %d and %d is greater than that of one peg fewer", p, n)
		}
	}
}
