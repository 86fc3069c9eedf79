package tests

import (
	"math/bits"
	"slices"
	"testing"

	"loop.example/g01321/impl"
)

// checkLevels fails if a function of one state does not return what the distances from it tell.
func checkLevels(t *testing.T, x impl.State, distances []int64) {
	t.Helper()
	levels := levelsOf(distances)
	reach := int64(len(levels)) - 1
	if numbers, code := impl.LevelsFrom(x); !slices.Equal(numbers, levels) || code != impl.ErrNone {
		t.Fatalf("LevelsFrom(%v) = %v, %d, want %v", x, numbers, code, levels)
	}
	if number, code := impl.ReachOf(x); number != reach || code != impl.ErrNone {
		t.Fatalf("ReachOf(%v) = %d, %d, want %d", x, number, code, reach)
	}
	if ranks, code := impl.FarthestFrom(x); !slices.Equal(ranks, ranksWith(distances, reach)) || code != impl.ErrNone {
		t.Fatalf("FarthestFrom(%v) = %v, %d, want %v", x, ranks, code, ranksWith(distances, reach))
	}
}

// TestLevels searches from all states of at most MaxWhole ones, and from some of more.
func TestLevels(t *testing.T) {
	for k, n := range shapes() {
		all := towersOf(k, n)
		few := slices.Collect(someRanks(len(all.states)))
		for i, x := range all.states {
			if len(all.states) <= impl.MaxWhole || slices.Contains(few, int64(i)) {
				distances, _ := all.search(int64(i))
				checkLevels(t, x, distances)
			}
		}
	}
}

// TestLevelsOfPerfectStates uses that on three pegs the number of states at a distance from a
// perfect state is 2 to the power of the number of digits 1 of the distance.
func TestLevelsOfPerfectStates(t *testing.T) {
	for n := range int64(impl.MaxDiscs + 1) {
		var want []int64
		for d := range 1 << n {
			want = append(want, 1<<bits.OnesCount(uint(d)))
		}
		for a := range int64(3) {
			if levels, code := impl.LevelsFrom(state(3, tower(a, n)...)); !slices.Equal(levels, want) || code != impl.ErrNone {
				t.Errorf("LevelsFrom of %d discs on the peg %d = %v, %d", n, a, levels, code)
			}
		}
	}
}

func TestLevelsByHand(t *testing.T) {
	cases := []struct {
		x                impl.State
		levels, farthest []int64
	}{
		{state(3), []int64{1}, []int64{0}},
		{state(4), []int64{1}, []int64{0}},
		{state(5), []int64{1}, []int64{0}},
		{state(3, 1), []int64{1, 2}, []int64{0, 2}},
		{state(4, 3), []int64{1, 3}, []int64{0, 1, 2}},
		{state(5, 2), []int64{1, 4}, []int64{0, 1, 3, 4}},
		{state(3, 0, 0), []int64{1, 2, 2, 4}, []int64{3, 4, 6, 8}},
		{state(3, 1, 0), []int64{1, 3, 3, 2}, []int64{3, 4}},
		{state(4, 0, 0), []int64{1, 3, 6, 6}, []int64{4, 5, 8, 10, 12, 15}},
	}
	for _, c := range cases {
		if levels, code := impl.LevelsFrom(c.x); !slices.Equal(levels, c.levels) || code != impl.ErrNone {
			t.Errorf("LevelsFrom(%v) = %v, %d, want %v", c.x, levels, code, c.levels)
		}
		if reach, code := impl.ReachOf(c.x); reach != int64(len(c.levels))-1 || code != impl.ErrNone {
			t.Errorf("ReachOf(%v) = %d, %d", c.x, reach, code)
		}
		if ranks, code := impl.FarthestFrom(c.x); !slices.Equal(ranks, c.farthest) || code != impl.ErrNone {
			t.Errorf("FarthestFrom(%v) = %v, %d, want %v", c.x, ranks, code, c.farthest)
		}
	}
}

func TestSearchDistance(t *testing.T) {
	for all, pair := range graphPairs() {
		x, y := all.states[pair[0]], all.states[pair[1]]
		distances, _ := all.search(pair[0])
		if distance, code := impl.SearchDistance(x, y); distance != distances[pair[1]] || code != impl.ErrNone {
			t.Fatalf("SearchDistance(%v, %v) = %d, %d, want %d", x, y, distance, code, distances[pair[1]])
		}
	}
}

// TestSearchDistanceByHand has equal states, neighbours, and towers that change their pegs.
func TestSearchDistanceByHand(t *testing.T) {
	check := func(x, y impl.State, want int64) {
		t.Helper()
		if distance, code := impl.SearchDistance(x, y); distance != want || code != impl.ErrNone {
			t.Errorf("SearchDistance(%v, %v) = %d, %d, want %d", x, y, distance, code, want)
		}
	}
	of := map[int64][]int64{
		3: {0, 1, 3, 7, 15, 31, 63, 127, 255},
		4: {0, 1, 3, 5, 9, 13, 17},
		5: {0, 1, 3, 5, 7, 11},
	}
	for k, wanted := range of {
		for n, want := range wanted {
			check(state(k, tower(0, int64(n))...), state(k, tower(k-1, int64(n))...), want)
			check(state(k, tower(1, int64(n))...), state(k, tower(1, int64(n))...), 0)
		}
	}
	check(state(3, 0, 1, 2), state(3, 0, 1, 2), 0)
	check(state(3, 0, 1, 2), state(3, 1, 1, 2), 1)
	check(state(3, 0, 1, 2), state(3, 0, 0, 0), 5)
	check(state(3, 0, 0, 0, 0, 0, 0, 0, 0), state(3, 1, 0, 0, 0, 0, 0, 0, 0), 1)
	check(state(3, 1, 1, 1, 1, 1, 1, 1, 0), state(3, 0, 0, 0, 0, 0, 0, 0, 1), 129)
}

// TestWholeGraphs has all numbers of pegs and discs with at most MaxWhole states: those of four
// discs on four pegs are just as many.
func TestWholeGraphs(t *testing.T) {
	for k, n := range shapes() {
		all := towersOf(k, n)
		if len(all.states) > impl.MaxWhole {
			continue
		}
		var reaches []int64
		for i := range all.states {
			distances, _ := all.search(int64(i))
			reaches = append(reaches, slices.Max(distances))
		}
		diameter, radius, code := impl.DiameterOf(k, n)
		if diameter != slices.Max(reaches) || radius != slices.Min(reaches) || code != impl.ErrNone {
			t.Errorf("DiameterOf(%d, %d) = %d, %d, %d, of %v", k, n, diameter, radius, code, reaches)
		}
		if centre, code := impl.CentreOf(k, n); !slices.Equal(centre, ranksWith(reaches, slices.Min(reaches))) || code != impl.ErrNone {
			t.Errorf("CentreOf(%d, %d) = %v, %d, of %v", k, n, centre, code, reaches)
		}
	}
}

func TestWholeGraphsByHand(t *testing.T) {
	diameters := map[int64][]int64{3: {0, 1, 3, 7, 15, 31}, 4: {0, 1, 3, 5, 9}, 5: {0, 1, 3, 5}}
	for k, wanted := range diameters {
		for n, want := range wanted {
			if diameter, _, code := impl.DiameterOf(k, int64(n)); diameter != want || code != impl.ErrNone {
				t.Errorf("DiameterOf(%d, %d) = %d, .., %d, want %d", k, n, diameter, code, want)
			}
		}
	}
	cases := []struct {
		k, n, radius int64
		centre       []int64
	}{
		{3, 0, 0, []int64{0}},
		{5, 0, 0, []int64{0}},
		{3, 1, 1, []int64{0, 1, 2}},
		{5, 1, 1, []int64{0, 1, 2, 3, 4}},
		{3, 2, 3, []int64{0, 1, 2, 3, 4, 5, 6, 7, 8}},
	}
	for _, c := range cases {
		if _, radius, code := impl.DiameterOf(c.k, c.n); radius != c.radius || code != impl.ErrNone {
			t.Errorf("DiameterOf(%d, %d) = .., %d, %d, want %d", c.k, c.n, radius, code, c.radius)
		}
		if centre, code := impl.CentreOf(c.k, c.n); !slices.Equal(centre, c.centre) || code != impl.ErrNone {
			t.Errorf("CentreOf(%d, %d) = %v, %d, want %v", c.k, c.n, centre, code, c.centre)
		}
	}
}
