package tests

import (
	"slices"
	"testing"

	"loop.example/g01321/impl"
)

func TestCountStates(t *testing.T) {
	for k, n := range shapes() {
		want := int64(0)
		for range statesOf(k, n) {
			want++
		}
		if count, code := impl.CountStates(k, n); count != want || code != impl.ErrNone {
			t.Errorf("CountStates(%d, %d) = %d, %d, want %d", k, n, count, code, want)
		}
	}
}

// TestCountsByHand has numbers of states, numbers of edges and degree numbers: of no discs, of
// exactly MaxStates states, and of the greatest numbers of discs on more pegs.
func TestCountsByHand(t *testing.T) {
	cases := []struct {
		k, n, states, edges int64
		degrees             []int64
	}{
		{3, 0, 1, 0, []int64{1}},
		{4, 0, 1, 0, []int64{1}},
		{5, 0, 1, 0, []int64{1}},
		{3, 1, 3, 3, []int64{0, 0, 3}},
		{4, 1, 4, 6, []int64{0, 0, 0, 4}},
		{5, 1, 5, 10, []int64{0, 0, 0, 0, 5}},
		{3, 2, 9, 12, []int64{0, 0, 3, 6}},
		{4, 2, 16, 36, []int64{0, 0, 0, 4, 0, 12}},
		{5, 2, 25, 80, []int64{0, 0, 0, 0, 5, 0, 0, 20}},
		{3, 3, 27, 39, []int64{0, 0, 3, 24}},
		{4, 3, 64, 168, []int64{0, 0, 0, 4, 0, 36, 24}},
		{3, 8, impl.MaxStates, 9840, []int64{0, 0, 3, 6558}},
		{4, 6, 4096, 12096, []int64{0, 0, 0, 4, 0, 372, 3720}},
		{5, 5, 3125, 14410, []int64{0, 0, 0, 0, 5, 0, 0, 300, 0, 1500, 1320}},
	}
	for _, c := range cases {
		if count, code := impl.CountStates(c.k, c.n); count != c.states || code != impl.ErrNone {
			t.Errorf("CountStates(%d, %d) = %d, %d, want %d", c.k, c.n, count, code, c.states)
		}
		if count, code := impl.CountEdges(c.k, c.n); count != c.edges || code != impl.ErrNone {
			t.Errorf("CountEdges(%d, %d) = %d, %d, want %d", c.k, c.n, count, code, c.edges)
		}
		if numbers, code := impl.DegreeNumbers(c.k, c.n); !slices.Equal(numbers, c.degrees) || code != impl.ErrNone {
			t.Errorf("DegreeNumbers(%d, %d) = %v, %d, want %v", c.k, c.n, numbers, code, c.degrees)
		}
	}
}

// TestEdgesAndDegrees counts the edges as pairs of ranks, the lesser one first.
func TestEdgesAndDegrees(t *testing.T) {
	for k, n := range shapes() {
		all := towersOf(k, n)
		edges, degrees := int64(0), make([]int64, len(all.states))
		for i, next := range all.neighbours {
			degrees[i] = int64(len(next))
			for _, j := range next {
				if int64(i) < j {
					edges++
				}
			}
			if degree, code := impl.DegreeOf(all.states[i]); degree != degrees[i] || code != impl.ErrNone {
				t.Fatalf("DegreeOf(%v) = %d, %d, want %d", all.states[i], degree, code, degrees[i])
			}
		}
		if count, code := impl.CountEdges(k, n); count != edges || code != impl.ErrNone {
			t.Errorf("CountEdges(%d, %d) = %d, %d, want %d", k, n, count, code, edges)
		}
		if numbers, code := impl.DegreeNumbers(k, n); !slices.Equal(numbers, levelsOf(degrees)) || code != impl.ErrNone {
			t.Errorf("DegreeNumbers(%d, %d) = %v, %d, want %v", k, n, numbers, code, levelsOf(degrees))
		}
	}
}

func TestDegreeOfByHand(t *testing.T) {
	cases := []struct {
		x    impl.State
		want int64
	}{
		{state(3), 0},
		{state(5), 0},
		{state(3, 1), 2},
		{state(4, 1), 3},
		{state(5, 1), 4},
		{state(3, 0, 0), 2},
		{state(3, 2, 0), 3},
		{state(4, 0, 1), 5},
		{state(4, 0, 1, 2), 6},
		{state(4, 3, 0, 1, 2), 6},
		{state(5, 0, 1, 2, 3), 10},
		{state(5, 0, 1, 2, 3, 4), 10},
		{state(3, tower(2, 8)...), 2},
		{state(3, 0, 1, 2, 0, 1, 2, 0, 1), 3},
	}
	for _, c := range cases {
		if degree, code := impl.DegreeOf(c.x); degree != c.want || code != impl.ErrNone {
			t.Errorf("DegreeOf(%v) = %d, %d, want %d", c.x, degree, code, c.want)
		}
	}
}
