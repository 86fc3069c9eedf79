package tests

import (
	"testing"

	"loop.example/g01321/impl"
)

// Promise 2, and the guarantee of chapter 2.

func TestPromise2WaysToPegs(t *testing.T) {
	for x := range threePegStates() {
		for a := range int64(3) {
			distance, code := impl.DistanceToPeg(x, a)
			wantCode(t, "DistanceToPeg", code, impl.ErrNone)
			way, code := impl.WayToPeg(x, a)
			if int64(len(way)) != distance || code != impl.ErrNone {
				t.Fatalf("the way from %v to %d has %d moves, the distance is %d", x, a, len(way), distance)
			}
			end, code := impl.RunMoves(x, way)
			wantCode(t, "RunMoves", code, impl.ErrNone)
			perfect, code := impl.PerfectState(3, int64(len(x.Discs)), a)
			if !sameState(end, perfect) || code != impl.ErrNone {
				t.Fatalf("the way from %v to %d ends at %v", x, a, end)
			}
			there, code := impl.DistanceByRule(x, perfect)
			back, backCode := impl.DistanceByRule(perfect, x)
			if there != distance || back != distance || code != impl.ErrNone || backCode != impl.ErrNone {
				t.Fatalf("the distance of %v and %d is %d, by rule %d, and back %d", x, a, distance, there, back)
			}
		}
	}
}

func TestPromise2WaysBetweenStates(t *testing.T) {
	for x, y := range threePegPairs() {
		distance, code := impl.DistanceByRule(x, y)
		wantCode(t, "DistanceByRule", code, impl.ErrNone)
		if back, code := impl.DistanceByRule(y, x); back != distance || code != impl.ErrNone {
			t.Fatalf("the distance of %v and %v is %d, and back %d", x, y, distance, back)
		}
		way, code := impl.WayBetween(x, y)
		if int64(len(way)) != distance || code != impl.ErrNone {
			t.Fatalf("the way from %v to %v has %d moves, the distance is %d", x, y, len(way), distance)
		}
		if end, code := impl.RunMoves(x, way); !sameState(end, y) || code != impl.ErrNone {
			t.Fatalf("the way from %v to %v ends at %v, %d", x, y, end, code)
		}
	}
}

func TestStatesOnWaysAddUpToTheDistance(t *testing.T) {
	for x := range threePegStates() {
		rank, _ := impl.RankOf(x)
		if len(x.Discs) > 5 && rank%101 != 0 {
			continue
		}
		for a := range int64(3) {
			way, _ := impl.WayToPeg(x, a)
			states, code := impl.StatesOfRun(x, way)
			wantCode(t, "StatesOfRun", code, impl.ErrNone)
			for i, y := range states {
				there, code := impl.DistanceByRule(x, y)
				wantCode(t, "DistanceByRule", code, impl.ErrNone)
				further, code := impl.DistanceToPeg(y, a)
				wantCode(t, "DistanceToPeg", code, impl.ErrNone)
				if there != int64(i) || there+further != int64(len(way)) {
					t.Fatalf("%v is %d moves behind %v, and %d before %d, on a way of %d", y, there, x, further, a, len(way))
				}
				if yes, code := impl.IsOnWay(x, a, y); !yes || code != impl.ErrNone {
					t.Fatalf("IsOnWay(%v, %d, %v) = %v, %d", x, a, y, yes, code)
				}
			}
		}
	}
}
