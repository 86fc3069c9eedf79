package tests

import (
	"testing"

	"loop.example/g01321/impl"
)

// Totals, averages, usual distances and spreads of states.

// totals has what chapter 9 tells of one state.
type totals struct {
	total   int64
	average terms
	usual   int64
	spread  terms
}

// checkTotals fails if a function of one state does not return what is wanted.
func checkTotals(t *testing.T, x impl.State, want totals) {
	t.Helper()
	if total, code := impl.TotalFrom(x); total != want.total || code != impl.ErrNone {
		t.Errorf("TotalFrom(%v) = %d, %d, want %d", x, total, code, want.total)
	}
	if p, q, code := impl.AverageFrom(x); (terms{p, q}) != want.average || code != impl.ErrNone {
		t.Errorf("AverageFrom(%v) = %d, %d, %d, want %v", x, p, q, code, want.average)
	}
	if usual, code := impl.UsualDistance(x); usual != want.usual || code != impl.ErrNone {
		t.Errorf("UsualDistance(%v) = %d, %d, want %d", x, usual, code, want.usual)
	}
	if p, q, code := impl.SpreadFrom(x); (terms{p, q}) != want.spread || code != impl.ErrNone {
		t.Errorf("SpreadFrom(%v) = %d, %d, %d, want %v", x, p, q, code, want.spread)
	}
}

// TestTotalsByHand has no discs, where averages and spreads are 0, and averages and spreads that are
// whole numbers, or not.
func TestTotalsByHand(t *testing.T) {
	cases := []struct {
		x    impl.State
		want totals
	}{
		{state(3), totals{0, terms{0, 1}, 0, terms{0, 1}}},
		{state(4), totals{0, terms{0, 1}, 0, terms{0, 1}}},
		{state(5), totals{0, terms{0, 1}, 0, terms{0, 1}}},
		{state(3, 0), totals{2, terms{2, 3}, 1, terms{2, 9}}},
		{state(3, 2), totals{2, terms{2, 3}, 1, terms{2, 9}}},
		{state(4, 1), totals{3, terms{3, 4}, 1, terms{3, 16}}},
		{state(5, 4), totals{4, terms{4, 5}, 1, terms{4, 25}}},
		{state(3, 0, 0), totals{18, terms{2, 1}, 3, terms{10, 9}}},
		{state(3, 1, 1), totals{18, terms{2, 1}, 3, terms{10, 9}}},
		{state(3, 1, 0), totals{15, terms{5, 3}, 1, terms{8, 9}}},
		{state(4, 0, 0), totals{33, terms{33, 16}, 2, terms{207, 256}}},
		{state(5, 3, 3), totals{52, terms{52, 25}, 2, terms{396, 625}}},
		{state(3, 2, 2, 2), totals{126, terms{14, 3}, 7, terms{14, 3}}},
		{state(4, 0, 0, 0), totals{231, terms{231, 64}, 4, terms{5199, 4096}}},
		{state(5, 0, 0, 0), totals{444, terms{444, 125}, 4, terms{15364, 15625}}},
		{state(3, 0, 0, 0, 0), totals{810, terms{10, 1}, 15, terms{170, 9}}},
		{state(4, 0, 0, 1, 1), totals{1206, terms{603, 128}, 5, terms{33191, 16384}}},
	}
	for _, c := range cases {
		checkTotals(t, c.x, c.want)
	}
}

// TestTotalsOfGreatestTowersByHand has perfect states and others of eight discs on three pegs, six on
// four, and five on five.
func TestTotalsOfGreatestTowersByHand(t *testing.T) {
	cases := []struct {
		x    impl.State
		want totals
	}{
		{state(3, tower(0, 8)...), totals{1115370, terms{170, 1}, 255, terms{43690, 9}}},
		{state(3, tower(2, 8)...), totals{1115370, terms{170, 1}, 255, terms{43690, 9}}},
		{state(3, 2, 1, 0, 0, 0, 0, 0, 0), totals{1108809, terms{169, 1}, 253, terms{31855586, 6561}}},
		{state(3, 1, 1, 2, 1, 0, 0, 1, 0), totals{795177, terms{9817, 81}, 183, terms{2896, 1}}},
		{state(3, 0, 1, 2, 0, 1, 2, 0, 1), totals{869997, terms{289999, 2187}, 170, terms{20327368166, 4782969}}},
		{state(3, 1, 1, 1, 1, 1, 1, 1, 0), totals{782727, terms{260909, 2187}, 127, terms{16380739124, 4782969}}},
		{state(4, tower(0, 6)...), totals{50355, terms{50355, 4096}, 14, terms{111467223, 16777216}}},
		{state(4, 0, 1, 2, 3, 0, 1), totals{37066, terms{18533, 2048}, 11, terms{21397543, 4194304}}},
		{state(5, tower(4, 5)...), totals{22628, terms{22628, 3125}, 8, terms{19786116, 9765625}}},
		{state(5, 0, 1, 2, 3, 4), totals{17092, terms{17092, 3125}, 6, terms{16344786, 9765625}}},
	}
	for _, c := range cases {
		checkTotals(t, c.x, c.want)
	}
}

func TestTotals(t *testing.T) {
	for x, distances := range searchedStates() {
		checkTotals(t, x, totals{
			total:   sumOf(distances),
			average: termsOf(averageOf(distances)),
			usual:   usualOf(distances),
			spread:  termsOf(spreadOf(distances)),
		})
	}
}

// TestUsualDistancesMetAsOften has states from which several distances are met as often, and looks
// that there are some of them at all: in the first one 3 states each have the distances 1 and 2, in
// the second one 6 each 2 and 3, in the third one 70 each 5 and 6.
func TestUsualDistancesMetAsOften(t *testing.T) {
	cases := []struct {
		x           impl.State
		usual, also int64
	}{
		{state(3, 1, 0), 1, 2},
		{state(4, 0, 0), 2, 3},
		{state(4, 0, 0, 1, 1), 5, 6},
	}
	for _, c := range cases {
		all := towersOf(c.x.Pegs, int64(len(c.x.Discs)))
		distances, _ := all.search(rankBySum(c.x))
		if levels := levelsOf(distances); levels[c.usual] != levels[c.also] {
			t.Fatalf("from %v there are %v states at the distances", c.x, levels)
		}
		if usual, code := impl.UsualDistance(c.x); usual != c.usual || code != impl.ErrNone {
			t.Errorf("UsualDistance(%v) = %d, %d, want %d", c.x, usual, code, c.usual)
		}
	}
}
