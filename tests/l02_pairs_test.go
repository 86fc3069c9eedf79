package tests

import (
	"slices"
	"testing"

	"loop.example/g01321/impl"
)

// checkPair fails if a function of two different states returns something else than the way with
// one move and that with two moves of the greatest disc tell.
func checkPair(t *testing.T, x, y impl.State, one, two int64, way []impl.Move) {
	t.Helper()
	if number, code := impl.OneMoveNumber(x, y); number != one || code != impl.ErrNone {
		t.Fatalf("OneMoveNumber(%v, %v) = %d, %d, want %d", x, y, number, code, one)
	}
	if number, code := impl.TwoMoveNumber(x, y); number != two || code != impl.ErrNone {
		t.Fatalf("TwoMoveNumber(%v, %v) = %d, %d, want %d", x, y, number, code, two)
	}
	if distance, code := impl.DistanceByRule(x, y); distance != min(one, two) || code != impl.ErrNone {
		t.Fatalf("DistanceByRule(%v, %v) = %d, %d, want %d", x, y, distance, code, min(one, two))
	}
	ways := int64(1)
	if one == two {
		ways = 2
	}
	if number, code := impl.WaysByRule(x, y); number != ways || code != impl.ErrNone {
		t.Fatalf("WaysByRule(%v, %v) = %d, %d, want %d", x, y, number, code, ways)
	}
	if got, code := impl.WayBetween(x, y); !slices.Equal(got, way) || code != impl.ErrNone {
		t.Fatalf("WayBetween(%v, %v) = %v, %d, want %v", x, y, got, code, way)
	}
}

// checkEqual fails if a function of two equal states does not return what the document names.
func checkEqual(t *testing.T, x impl.State) {
	t.Helper()
	y := impl.State{Pegs: x.Pegs, Discs: slices.Clone(x.Discs)}
	if number, code := impl.OneMoveNumber(x, y); number != 0 || code != impl.ErrState {
		t.Errorf("OneMoveNumber(%v, the same) = %d, %d", x, number, code)
	}
	if number, code := impl.TwoMoveNumber(x, y); number != 0 || code != impl.ErrState {
		t.Errorf("TwoMoveNumber(%v, the same) = %d, %d", x, number, code)
	}
	if distance, code := impl.DistanceByRule(x, y); distance != 0 || code != impl.ErrNone {
		t.Errorf("DistanceByRule(%v, the same) = %d, %d", x, distance, code)
	}
	if number, code := impl.WaysByRule(x, y); number != 1 || code != impl.ErrNone {
		t.Errorf("WaysByRule(%v, the same) = %d, %d", x, number, code)
	}
	if way, code := impl.WayBetween(x, y); len(way) != 0 || code != impl.ErrNone {
		t.Errorf("WayBetween(%v, the same) = %v, %d", x, way, code)
	}
}

func TestEqualStates(t *testing.T) {
	for x := range threePegStates() {
		checkEqual(t, x)
	}
	checkEqual(t, impl.State{Pegs: 3, Discs: []int64{}})
}

// TestPairsByHand has numbers that are equal, and that differ by 1 and by more, either one less.
func TestPairsByHand(t *testing.T) {
	cases := []struct {
		x, y     impl.State
		one, two int64
		way      []impl.Move
	}{
		{state(3, 0), state(3, 1), 1, 2, []impl.Move{move(0, 0, 1)}},
		{state(3, 2, 1, 1), state(3, 0, 1, 1), 1, 2, []impl.Move{move(0, 2, 0)}},
		{state(3, 0, 0), state(3, 1, 1), 3, 5, []impl.Move{move(0, 0, 2), move(1, 0, 1), move(0, 2, 1)}},
		{state(3, 1, 0), state(3, 1, 1), 3, 4, []impl.Move{move(0, 1, 2), move(1, 0, 1), move(0, 2, 1)}},
		{state(3, 2, 0), state(3, 2, 1), 1, 5, []impl.Move{move(1, 0, 1)}},
		{state(3, 1, 0), state(3, 0, 1), 3, 3, []impl.Move{move(0, 1, 2), move(1, 0, 1), move(0, 2, 0)}},
		{state(3, 0, 1, 2), state(3, 0, 0, 0), 5, 11, []impl.Move{
			move(0, 0, 1), move(2, 2, 0), move(0, 1, 2), move(1, 1, 0), move(0, 2, 0),
		}},
		{state(3, 1, 1, 0), state(3, 1, 0, 1), 6, 6, []impl.Move{
			move(0, 1, 0), move(1, 1, 2), move(0, 0, 2), move(2, 0, 1), move(0, 2, 1), move(1, 2, 0),
		}},
		{state(3, 1, 1, 0), state(3, 2, 0, 1), 7, 6, []impl.Move{
			move(2, 0, 2), move(0, 1, 2), move(1, 1, 0), move(0, 2, 0), move(2, 2, 1), move(0, 0, 2),
		}},
		{state(3, 1, 1, 0), state(3, 0, 0, 1), 7, 5, []impl.Move{
			move(2, 0, 2), move(0, 1, 2), move(1, 1, 0), move(0, 2, 0), move(2, 2, 1),
		}},
		{state(3, 1, 1, 0, 2), state(3, 0, 0, 1, 2), 7, 5, []impl.Move{
			move(2, 0, 2), move(0, 1, 2), move(1, 1, 0), move(0, 2, 0), move(2, 2, 1),
		}},
	}
	for _, c := range cases {
		checkPair(t, c.x, c.y, c.one, c.two, c.way)
		if end := after(t, c.x, c.way); !sameState(end, c.y) {
			t.Errorf("the wanted way from %v leads to %v", c.x, end)
		}
	}
}

// TestPairsOfEightDiscs has the greatest numbers: towers that change their pegs, and discs between
// which the greatest one changes.
func TestPairsOfEightDiscs(t *testing.T) {
	zero, one := tower(0, 7), tower(1, 7)
	cases := []struct {
		x, y     impl.State
		one, two int64
	}{
		{state(3, tower(0, 8)...), state(3, tower(1, 8)...), 255, 383},
		{state(3, append(one, 0)...), state(3, append(zero, 1)...), 255, 129},
		{state(3, append(zero, 0)...), state(3, append(zero, 1)...), 255, 256},
		{state(3, append(tower(2, 7), 0)...), state(3, append(tower(2, 7), 1)...), 1, 383},
		{state(3, 0, 1, 1, 1, 1, 1, 1, 1), state(3, 2, 1, 1, 1, 1, 1, 1, 1), 1, 2},
	}
	for _, c := range cases {
		checkPair(t, c.x, c.y, c.one, c.two, chosenWay(c.x, c.y))
	}
}

// TestNumbersOfPairs holds the numbers against distances of the lesser discs by search, and the
// ways against those by recursion.
func TestNumbersOfPairs(t *testing.T) {
	var toPeg [impl.MaxDiscs][3][]int64
	for n := range toPeg {
		all := towersOf(3, int64(n))
		for a := range toPeg[n] {
			toPeg[n][a], _ = all.search(all.perfect(int64(a)))
		}
	}
	signs := map[[2]int64]int64{}
	for x, y := range threePegPairs() {
		if sameState(x, y) {
			continue
		}
		d := int64(len(x.Discs)) - 1
		for x.Discs[d] == y.Discs[d] {
			d--
		}
		p, q := x.Discs[d], y.Discs[d]
		before, behind := rankBySum(state(3, x.Discs[:d]...)), rankBySum(state(3, y.Discs[:d]...))
		one := toPeg[d][3-p-q][before] + toPeg[d][3-p-q][behind] + 1
		two := toPeg[d][q][before] + toPeg[d][p][behind] + 1<<d + 1
		checkPair(t, x, y, one, two, chosenWay(x, y))
		signs[[2]int64{int64(len(x.Discs)), min(max(one-two, -1), 1)}]++
	}
	for n := int64(3); n <= impl.MaxDiscs; n++ {
		for sign := int64(-1); sign <= 1; sign++ {
			if signs[[2]int64{n, sign}] == 0 {
				t.Errorf("no pair of %d discs where the difference of both numbers has the sign %d", n, sign)
			}
		}
	}
}

// TestDistancesAndWaysBySearch searches from all states of at most six discs, and from some with
// more.
func TestDistancesAndWaysBySearch(t *testing.T) {
	for n := range int64(impl.MaxDiscs + 1) {
		all := towersOf(3, n)
		for i, x := range all.states {
			if n > 6 && i%607 != 0 {
				continue
			}
			distances, ways := all.search(int64(i))
			for j, y := range all.states {
				if distance, code := impl.DistanceByRule(x, y); distance != distances[j] || code != impl.ErrNone {
					t.Fatalf("DistanceByRule(%v, %v) = %d, %d, want %d", x, y, distance, code, distances[j])
				}
				if number, code := impl.WaysByRule(x, y); number != ways[j] || code != impl.ErrNone {
					t.Fatalf("WaysByRule(%v, %v) = %d, %d, want %d", x, y, number, code, ways[j])
				}
			}
		}
	}
}
