package tests

import (
	"testing"

	"loop.example/g01321/impl"
)

// Promise 3, and the guarantee of chapter 3.

func TestPromise3DegreesAddUpToTwiceTheEdges(t *testing.T) {
	for k, n := range shapes() {
		degrees, neighbours := int64(0), int64(0)
		for _, x := range statesOf(k, n) {
			degree, code := impl.DegreeOf(x)
			wantCode(t, "DegreeOf", code, impl.ErrNone)
			degrees += degree
			states, code := impl.NeighboursOf(x)
			wantCode(t, "NeighboursOf", code, impl.ErrNone)
			neighbours += int64(len(states))
		}
		edges, code := impl.CountEdges(k, n)
		if degrees != 2*edges || neighbours != 2*edges || code != impl.ErrNone {
			t.Errorf("of %d discs on %d pegs: %d edges, %d degrees, %d neighbours", n, k, edges, degrees, neighbours)
		}
		count, code := impl.CountStates(k, n)
		wantCode(t, "CountStates", code, impl.ErrNone)
		numbers, code := impl.DegreeNumbers(k, n)
		wantCode(t, "DegreeNumbers", code, impl.ErrNone)
		for d, number := range numbers {
			count -= number
			degrees -= int64(d) * number
		}
		if count != 0 || degrees != 0 || numbers[len(numbers)-1] == 0 {
			t.Errorf("of %d discs on %d pegs: degree numbers %v", n, k, numbers)
		}
	}
}

func TestPromise3LeastWaysAreRuns(t *testing.T) {
	for all, pair := range graphPairs() {
		x, y := all.states[pair[0]], all.states[pair[1]]
		distance, code := impl.SearchDistance(x, y)
		wantCode(t, "SearchDistance", code, impl.ErrNone)
		if back, code := impl.SearchDistance(y, x); back != distance || code != impl.ErrNone {
			t.Fatalf("the distance of %v and %v is %d, and back %d", x, y, distance, back)
		}
		way, code := impl.LeastWay(x, y)
		if int64(len(way)) != distance || code != impl.ErrNone {
			t.Fatalf("the least way from %v to %v has %d moves, the distance is %d", x, y, len(way), distance)
		}
		if end, code := impl.RunMoves(x, way); !sameState(end, y) || code != impl.ErrNone {
			t.Fatalf("the least way from %v to %v ends at %v, %d", x, y, end, code)
		}
		there, code := impl.CountLeastWays(x, y)
		back, backCode := impl.CountLeastWays(y, x)
		if there != back || there < 1 || code != impl.ErrNone || backCode != impl.ErrNone {
			t.Fatalf("%d shortest ways from %v to %v, and %d back", there, x, y, back)
		}
	}
}

// TestDistancesBySearchAreThoseByRule holds chapter 3 against chapter 2.
func TestDistancesBySearchAreThoseByRule(t *testing.T) {
	for all, pair := range graphPairs() {
		x, y := all.states[pair[0]], all.states[pair[1]]
		if x.Pegs != 3 {
			continue
		}
		searched, _ := impl.SearchDistance(x, y)
		if distance, code := impl.DistanceByRule(x, y); distance != searched || code != impl.ErrNone {
			t.Fatalf("the distance of %v and %v is %d by rule, %d by search", x, y, distance, searched)
		}
		counted, _ := impl.CountLeastWays(x, y)
		if number, code := impl.WaysByRule(x, y); number != counted || code != impl.ErrNone {
			t.Fatalf("from %v to %v there are %d ways by rule, %d by search", x, y, number, counted)
		}
	}
}

func TestLevelsAddUpToAllStates(t *testing.T) {
	for k, n := range shapes() {
		all := towersOf(k, n)
		for i := range someRanks(len(all.states)) {
			x := all.states[i]
			levels, code := impl.LevelsFrom(x)
			wantCode(t, "LevelsFrom", code, impl.ErrNone)
			left, code := impl.CountStates(k, n)
			wantCode(t, "CountStates", code, impl.ErrNone)
			for _, number := range levels {
				left -= number
			}
			reach, code := impl.ReachOf(x)
			wantCode(t, "ReachOf", code, impl.ErrNone)
			farthest, code := impl.FarthestFrom(x)
			wantCode(t, "FarthestFrom", code, impl.ErrNone)
			if left != 0 || reach != int64(len(levels))-1 || int64(len(farthest)) != levels[reach] {
				t.Fatalf("from %v: levels %v, the reach %d, %d farthest states", x, levels, reach, len(farthest))
			}
			for _, rank := range farthest {
				y, code := impl.StateOfRank(k, n, rank)
				wantCode(t, "StateOfRank", code, impl.ErrNone)
				if n <= 4 {
					distance, code := impl.SearchDistance(x, y)
					if distance != reach || code != impl.ErrNone {
						t.Fatalf("%v is farthest from %v, at %d of %d", y, x, distance, reach)
					}
				}
			}
		}
	}
}
