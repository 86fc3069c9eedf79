package tests

import (
	"fmt"
	"slices"
	"testing"

	"loop.example/g01321/impl"
)

// TestTotalsNotModified calls each function of chapter 9 that takes a state.
func TestTotalsNotModified(t *testing.T) {
	for _, p := range graphArguments() {
		x := p[0]
		before := slices.Clone(x.Discs)
		for name, call := range totalCalls() {
			call(x, 0, impl.State{})
			checkRoomy(t, name, x.Discs, before...)
		}
	}
}

// TestRulerListsShareNoMemory overwrites each list, with its spare capacity, and looks at what another
// call returned, at a further one, and at the discs of ways, which are the same numbers.
func TestRulerListsShareNoMemory(t *testing.T) {
	for n := range int64(impl.MaxDiscs + 1) {
		list, _ := impl.RulerList(n)
		other, _ := impl.RulerList(n)
		discs, _ := impl.DiscsOfWay(n)
		want := slices.Clone(list)
		spoil(list)
		again, _ := impl.RulerList(n)
		if !slices.Equal(other, want) || !slices.Equal(again, want) || !slices.Equal(discs, want) {
			t.Errorf("RulerList(%d) = %v, then %v, %v and %v", n, want, other, again, discs)
		}
	}
}

// grandResults returns the grand total and the grand average of n discs.
func grandResults(n int64) [3]int64 {
	total, _ := impl.GrandTotal(n)
	p, q, _ := impl.GrandAverage(n)
	return [3]int64{total, p, q}
}

func TestGrandTotalsAreTheSameAtEveryRun(t *testing.T) {
	for n := range int64(impl.MaxSearched + 1) {
		what := fmt.Sprintf("the grand total and the grand average of %d discs", n)
		checkSameAtEveryRun(t, what, func() [3]int64 { return grandResults(n) })
	}
}

func TestGrandTotalsEnd(t *testing.T) {
	checkGoroutinesEnd(t, func() {
		for range 5 {
			for n := range int64(impl.MaxSearched + 1) {
				grandResults(n)
			}
		}
	})
}
