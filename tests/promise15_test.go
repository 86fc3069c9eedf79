package tests

import (
	"slices"
	"testing"

	"loop.example/g01321/impl"
)

// Promise 15.

// discsOfLeastWays returns the discs of the least ways of n discs between two different perfect
// states on three pegs, by their pegs.
func discsOfLeastWays(t *testing.T, n int64) map[[2]int64][]int64 {
	t.Helper()
	ways := map[[2]int64][]int64{}
	for from := range int64(3) {
		for to := range int64(3) {
			if from == to {
				continue
			}
			x, code := impl.PerfectState(3, n, from)
			wantCode(t, "PerfectState", code, impl.ErrNone)
			y, code := impl.PerfectState(3, n, to)
			wantCode(t, "PerfectState", code, impl.ErrNone)
			way, code := impl.LeastWay(x, y)
			wantCode(t, "LeastWay", code, impl.ErrNone)
			if ways, code := impl.CountLeastWays(x, y); ways != 1 || code != impl.ErrNone {
				t.Errorf("from %v to %v there are %d shortest ways, %d", x, y, ways, code)
			}
			discs := []int64{}
			for _, m := range way {
				discs = append(discs, m.Disc)
			}
			ways[[2]int64{from, to}] = discs
		}
	}
	return ways
}

// TestPromise15RingsOfStepsAreDiscsOfWays also has the steps of more rings than there are discs,
// which begin in the same way.
func TestPromise15RingsOfStepsAreDiscsOfWays(t *testing.T) {
	for n := range int64(impl.MaxDiscs + 1) {
		for pegs, discs := range discsOfLeastWays(t, n) {
			if len(discs) != 1<<n-1 {
				t.Errorf("from peg to peg %v, %d discs take %d moves", pegs, n, len(discs))
			}
			for i, disc := range discs {
				step := int64(i) + 1
				for rings := n; rings <= impl.MaxRings; rings++ {
					if ring, code := impl.RingOfStep(rings, step); ring != disc || code != impl.ErrNone {
						t.Errorf("RingOfStep(%d, %d) = %d, %d, the move from peg to peg %v is of %d", rings, step, ring, code, pegs, disc)
					}
				}
			}
		}
	}
}

func TestPromise15DiscsOfWaysAreThoseOfSearches(t *testing.T) {
	for n := range int64(impl.MaxDiscs + 1) {
		found, code := impl.DiscsOfWay(n)
		wantCode(t, "DiscsOfWay", code, impl.ErrNone)
		for pegs, discs := range discsOfLeastWays(t, n) {
			if !slices.Equal(found, discs) {
				t.Errorf("DiscsOfWay(%d) = %v, from peg to peg %v they are %v", n, found, pegs, discs)
			}
		}
	}
}

// TestPromise15WaysOfRingsAreDiscsOfWays has the ways from all rings off to the last one alone on.
func TestPromise15WaysOfRingsAreDiscsOfWays(t *testing.T) {
	for n := int64(1); n <= impl.MaxDiscs; n++ {
		way, code := impl.WayOfRings(tower(0, n), lastAloneOn(n))
		wantCode(t, "WayOfRings", code, impl.ErrNone)
		if discs, code := impl.DiscsOfWay(n); !slices.Equal(way, discs) || code != impl.ErrNone {
			t.Errorf("the way of %d rings is %v, the discs are %v, %d", n, way, discs, code)
		}
	}
}

// ringsOfSteps returns the rings of all steps of n rings, in order.
func ringsOfSteps(t *testing.T, n int64) []int64 {
	t.Helper()
	var rings []int64
	for step := int64(1); step < 1<<n; step++ {
		ring, code := impl.RingOfStep(n, step)
		wantCode(t, "RingOfStep", code, impl.ErrNone)
		rings = append(rings, ring)
	}
	return rings
}

func TestPromise15RulerListsAreRingsOfSteps(t *testing.T) {
	for n := range int64(impl.MaxDiscs + 1) {
		list := rulerList(t, n)
		if rings := ringsOfSteps(t, n); !slices.Equal(list, rings) {
			t.Errorf("the ruler list of %d is %v, the rings of the steps are %v", n, list, rings)
		}
	}
}

func TestPromise15RulerListsAreDiscsOfWays(t *testing.T) {
	for n := range int64(impl.MaxDiscs + 1) {
		list := rulerList(t, n)
		for pegs, discs := range discsOfLeastWays(t, n) {
			if !slices.Equal(list, discs) {
				t.Errorf("the ruler list of %d is %v, the discs from peg to peg %v are %v", n, list, pegs, discs)
			}
		}
		if discs, code := impl.DiscsOfWay(n); !slices.Equal(list, discs) || code != impl.ErrNone {
			t.Errorf("the ruler list of %d is %v, the discs of the way are %v, %d", n, list, discs, code)
		}
	}
}

// TestPromise15SharesCountRingsAndDiscs counts each disc in all least ways, and each ring among those
// of the steps.
func TestPromise15SharesCountRingsAndDiscs(t *testing.T) {
	for n := range int64(impl.MaxDiscs + 1) {
		lists := discsOfLeastWays(t, n)
		rings := ringsOfSteps(t, n)
		for d := range n {
			share := shareOfDisc(t, n, d)
			if times := len(ranksWith(rings, d)); share != int64(times) {
				t.Errorf("the share of the disc %d of %d is %d, %d steps are of the ring", d, n, share, times)
			}
			for pegs, discs := range lists {
				if times := len(ranksWith(discs, d)); share != int64(times) {
					t.Errorf("the share of the disc %d of %d is %d, from peg to peg %v it has %d moves", d, n, share, pegs, times)
				}
			}
		}
	}
}
