package tests

import (
	"slices"
	"testing"

	"loop.example/g01321/impl"
)

// TestLeastWays holds least ways, and how many shortest ones there are, against lists of all
// shortest ways.
func TestLeastWays(t *testing.T) {
	several := map[int64]bool{}
	for all, pair := range graphPairs() {
		x, y := all.states[pair[0]], all.states[pair[1]]
		distances, _ := all.search(pair[1])
		ways := all.shortestWays(pair[0], distances)
		if way, code := impl.LeastWay(x, y); !slices.Equal(way, leastOf(ways)) || code != impl.ErrNone {
			t.Fatalf("LeastWay(%v, %v) = %v, %d, want %v", x, y, way, code, leastOf(ways))
		}
		if number, code := impl.CountLeastWays(x, y); number != int64(len(ways)) || code != impl.ErrNone {
			t.Fatalf("CountLeastWays(%v, %v) = %d, %d, want %d", x, y, number, code, len(ways))
		}
		several[x.Pegs] = several[x.Pegs] || len(ways) > 1
	}
	for k := int64(3); k <= 5; k++ {
		if !several[k] {
			t.Errorf("no pair of states of %d pegs with several shortest ways", k)
		}
	}
}

// TestLeastWaysByHand has, for pairs of states, the number of shortest ways and the least one: ways
// that differ at first in To alone, or in Disc, and ones that do not begin with the least move.
func TestLeastWaysByHand(t *testing.T) {
	cases := []struct {
		x, y   impl.State
		number int64
		way    []impl.Move
	}{
		{state(3), state(3), 1, nil},
		{state(5), state(5), 1, nil},
		{state(4, 1, 2, 3), state(4, 1, 2, 3), 1, nil},
		{state(3, tower(1, 8)...), state(3, tower(1, 8)...), 1, nil},
		{state(3, 1), state(3, 0), 1, []impl.Move{move(0, 1, 0)}},
		{state(3, 0, 0), state(3, 2, 2), 1, []impl.Move{move(0, 0, 1), move(1, 0, 2), move(0, 1, 2)}},
		{state(4, 0, 0), state(4, 3, 3), 2, []impl.Move{move(0, 0, 1), move(1, 0, 3), move(0, 1, 3)}},
		{state(4, 0, 1), state(4, 1, 0), 4, []impl.Move{move(0, 0, 2), move(1, 1, 0), move(0, 2, 1)}},
		{state(4, 0, 1), state(4, 2, 3), 2, []impl.Move{move(0, 0, 2), move(1, 1, 3)}},
		{state(5, 0, 0), state(5, 4, 4), 3, []impl.Move{move(0, 0, 1), move(1, 0, 4), move(0, 1, 4)}},
		{state(5, 0, 0), state(5, 1, 1), 3, []impl.Move{move(0, 0, 2), move(1, 0, 1), move(0, 2, 1)}},
		{state(5, 1, 1), state(5, 3, 3), 3, []impl.Move{move(0, 1, 0), move(1, 1, 3), move(0, 0, 3)}},
		{state(5, 0, 1, 2), state(5, 1, 2, 3), 1, []impl.Move{move(2, 2, 3), move(1, 1, 2), move(0, 0, 1)}},
		{state(3, 1, 1, 0), state(3, 1, 0, 1), 2, []impl.Move{
			move(0, 1, 0), move(1, 1, 2), move(0, 0, 2), move(2, 0, 1), move(0, 2, 1), move(1, 2, 0),
		}},
		{state(3, 1, 0, 1), state(3, 1, 1, 0), 2, []impl.Move{
			move(0, 1, 0), move(2, 1, 2), move(0, 0, 2), move(1, 0, 1), move(0, 2, 1), move(2, 2, 0),
		}},
	}
	for _, c := range cases {
		if way, code := impl.LeastWay(c.x, c.y); !slices.Equal(way, c.way) || code != impl.ErrNone {
			t.Errorf("LeastWay(%v, %v) = %v, %d, want %v", c.x, c.y, way, code, c.way)
		}
		if number, code := impl.CountLeastWays(c.x, c.y); number != c.number || code != impl.ErrNone {
			t.Errorf("CountLeastWays(%v, %v) = %d, %d, want %d", c.x, c.y, number, code, c.number)
		}
		if end := after(t, c.x, c.way); !sameState(end, c.y) {
			t.Errorf("the wanted way from %v leads to %v", c.x, end)
		}
	}
}

// TestLeastWaysOfEightDiscs leads the greatest towers of three pegs from peg to peg: the only way.
func TestLeastWaysOfEightDiscs(t *testing.T) {
	for a := range int64(3) {
		for b := range int64(3) {
			x, y := state(3, tower(a, 8)...), state(3, tower(b, 8)...)
			want := wayByRecursion(x.Discs, b)
			if way, code := impl.LeastWay(x, y); !slices.Equal(way, want) || code != impl.ErrNone {
				t.Errorf("LeastWay(%v, %v) = %v, %d, want %v", x, y, way, code, want)
			}
			if number, code := impl.CountLeastWays(x, y); number != 1 || code != impl.ErrNone {
				t.Errorf("CountLeastWays(%v, %v) = %d, %d", x, y, number, code)
			}
		}
	}
}

// TestMostWays looks for the pairs with the most shortest ways, which are far from what would be
// ErrLimit: there is no pair of states for which CountLeastWays returns it.
func TestMostWays(t *testing.T) {
	most := map[[2]int64]int64{{3, 8}: 2, {4, 6}: 236, {5, 5}: 460}
	for shape, want := range most {
		all := towersOf(shape[0], shape[1])
		number, pair := int64(0), [2]int64{}
		for i, x := range all.states {
			if !hasPegsInOrder(x) {
				continue
			}
			_, ways := all.search(int64(i))
			if m := slices.Max(ways); m > number {
				number, pair = m, [2]int64{int64(i), int64(slices.Index(ways, m))}
			}
		}
		if number != want {
			t.Errorf("by search there are at most %d shortest ways, want %d", number, want)
		}
		x, y := all.states[pair[0]], all.states[pair[1]]
		if got, code := impl.CountLeastWays(x, y); got != number || code != impl.ErrNone {
			t.Errorf("CountLeastWays(%v, %v) = %d, %d, want %d", x, y, got, code, number)
		}
	}
}

// hasPegsInOrder reports whether the pegs of a state are first met, from the disc 0 on, in ascending
// order without gaps: just one of the states that come from one another by renaming pegs is so.
func hasPegsInOrder(x impl.State) bool {
	met := int64(0)
	for _, peg := range x.Discs {
		if peg > met {
			return false
		}
		met = max(met, peg+1)
	}
	return true
}
