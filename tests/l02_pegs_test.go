package tests

import (
	"slices"
	"testing"

	"loop.example/g01321/impl"
)

// TestWaysToPegsByHand has, for a state and a peg, the goals, the way, and so the distance and the
// first move.
func TestWaysToPegsByHand(t *testing.T) {
	cases := []struct {
		x     impl.State
		a     int64
		goals []int64
		way   []impl.Move
	}{
		{state(3), 0, nil, nil},
		{state(3), 2, nil, nil},
		{state(3, 1), 1, []int64{1}, nil},
		{state(3, 1), 2, []int64{2}, []impl.Move{move(0, 1, 2)}},
		{state(3, 0, 0), 2, []int64{1, 2}, []impl.Move{move(0, 0, 1), move(1, 0, 2), move(0, 1, 2)}},
		{state(3, 1, 0), 2, []int64{1, 2}, []impl.Move{move(1, 0, 2), move(0, 1, 2)}},
		{state(3, 2, 0), 0, []int64{0, 0}, []impl.Move{move(0, 2, 0)}},
		{state(3, 0, 1, 2), 0, []int64{1, 1, 0}, []impl.Move{
			move(0, 0, 1), move(2, 2, 0), move(0, 1, 2), move(1, 1, 0), move(0, 2, 0),
		}},
		{state(3, 0, 1, 2), 2, []int64{0, 2, 2}, []impl.Move{move(1, 1, 2), move(0, 0, 2)}},
		{state(3, 2, 2, 2, 2), 2, []int64{2, 2, 2, 2}, nil},
	}
	for _, c := range cases {
		if goals, code := impl.GoalsOf(c.x, c.a); !slices.Equal(goals, c.goals) || code != impl.ErrNone {
			t.Errorf("GoalsOf(%v, %d) = %v, %d", c.x, c.a, goals, code)
		}
		if distance, code := impl.DistanceToPeg(c.x, c.a); distance != int64(len(c.way)) || code != impl.ErrNone {
			t.Errorf("DistanceToPeg(%v, %d) = %d, %d", c.x, c.a, distance, code)
		}
		if way, code := impl.WayToPeg(c.x, c.a); !slices.Equal(way, c.way) || code != impl.ErrNone {
			t.Errorf("WayToPeg(%v, %d) = %v, %d", c.x, c.a, way, code)
		}
		first, wantedCode := impl.Move{}, int64(impl.ErrState)
		if len(c.way) > 0 {
			first, wantedCode = c.way[0], impl.ErrNone
		}
		if m, code := impl.FirstMove(c.x, c.a); m != first || code != wantedCode {
			t.Errorf("FirstMove(%v, %d) = %v, %d", c.x, c.a, m, code)
		}
	}
}

// TestDistancesOfEightDiscsByHand has the greatest towers: the least and the greatest distance, and
// those of states with one disc aside.
func TestDistancesOfEightDiscsByHand(t *testing.T) {
	cases := []struct {
		x    impl.State
		a    int64
		want int64
	}{
		{state(3, 0, 0, 0, 0, 0, 0, 0, 0), 0, 0},
		{state(3, 0, 0, 0, 0, 0, 0, 0, 0), 1, 255},
		{state(3, 2, 2, 2, 2, 2, 2, 2, 2), 0, 255},
		{state(3, 1, 0, 0, 0, 0, 0, 0, 0), 0, 1},
		{state(3, 0, 0, 0, 0, 0, 0, 0, 1), 0, 255},
		{state(3, 2, 2, 2, 2, 2, 2, 2, 1), 0, 128},
		{state(3, 2, 0, 0, 0, 0, 0, 0, 1), 2, 129},
		{state(3, 0, 1, 2, 0, 1, 2, 0, 1), 1, 85},
	}
	for _, c := range cases {
		if distance, code := impl.DistanceToPeg(c.x, c.a); distance != c.want || code != impl.ErrNone {
			t.Errorf("DistanceToPeg(%v, %d) = %d, %d, want %d", c.x, c.a, distance, code, c.want)
		}
	}
}

func TestDistanceToPeg(t *testing.T) {
	for n := range int64(impl.MaxDiscs + 1) {
		all := towersOf(3, n)
		for a := range int64(3) {
			distances, ways := all.search(all.perfect(a))
			for rank, x := range all.states {
				if ways[rank] != 1 {
					t.Fatalf("by search there are %d ways from %v to %d", ways[rank], x, a)
				}
				if distance, code := impl.DistanceToPeg(x, a); distance != distances[rank] || code != impl.ErrNone {
					t.Fatalf("DistanceToPeg(%v, %d) = %d, %d, want %d", x, a, distance, code, distances[rank])
				}
			}
		}
	}
}

func TestWayToPegAndFirstMove(t *testing.T) {
	for x := range threePegStates() {
		for a := range int64(3) {
			want := wayByRecursion(x.Discs, a)
			if way, code := impl.WayToPeg(x, a); !slices.Equal(way, want) || code != impl.ErrNone {
				t.Fatalf("WayToPeg(%v, %d) = %v, %d, want %v", x, a, way, code, want)
			}
			first, wantedCode := impl.Move{}, int64(impl.ErrState)
			if len(want) > 0 {
				first, wantedCode = want[0], impl.ErrNone
			}
			if m, code := impl.FirstMove(x, a); m != first || code != wantedCode {
				t.Fatalf("FirstMove(%v, %d) = %v, %d, want %v, %d", x, a, m, code, first, wantedCode)
			}
		}
	}
}

// TestGoalsOf uses that a goal is where the disc is on the way when a greater one first moves, or
// at the end if none does.
func TestGoalsOf(t *testing.T) {
	for x := range threePegStates() {
		for a := range int64(3) {
			want := slices.Clone(x.Discs)
			greatest := int64(-1)
			for _, m := range wayByRecursion(x.Discs, a) {
				greatest = max(greatest, m.Disc)
				if m.Disc == greatest {
					want[m.Disc] = m.To
				}
			}
			if goals, code := impl.GoalsOf(x, a); !slices.Equal(goals, want) || code != impl.ErrNone {
				t.Fatalf("GoalsOf(%v, %d) = %v, %d, want %v", x, a, goals, code, want)
			}
		}
	}
}

// TestIsOnWay uses that a state is on the only way exactly if it adds no moves.
func TestIsOnWay(t *testing.T) {
	for n := range int64(5) {
		all := towersOf(3, n)
		for a := range int64(3) {
			toPeg, _ := all.search(all.perfect(a))
			for i, x := range all.states {
				distances, _ := all.search(int64(i))
				for j, y := range all.states {
					want := distances[j]+toPeg[j] == toPeg[i]
					if yes, code := impl.IsOnWay(x, a, y); yes != want || code != impl.ErrNone {
						t.Fatalf("IsOnWay(%v, %d, %v) = %v, %d", x, a, y, yes, code)
					}
				}
			}
		}
	}
}

func TestIsOnWayOfEightDiscs(t *testing.T) {
	all := towersOf(3, 8)
	for _, i := range []int64{0, 1, 2186, 3280, 4097, 5555, 6560} {
		for a := range int64(3) {
			x := all.states[i]
			on := map[int64]bool{i: true}
			last := x
			for _, m := range wayByRecursion(x.Discs, a) {
				last = moved(last, m)
				on[rankBySum(last)] = true
			}
			for j, y := range all.states {
				if yes, code := impl.IsOnWay(x, a, y); yes != on[int64(j)] || code != impl.ErrNone {
					t.Fatalf("IsOnWay(%v, %d, %v) = %v, %d", x, a, y, yes, code)
				}
			}
		}
	}
}

func TestIsOnWayByHand(t *testing.T) {
	x := state(3, 0, 1, 2)
	for _, y := range []impl.State{x, state(3, 1, 1, 2), state(3, 1, 1, 0), state(3, 2, 1, 0), state(3, 2, 0, 0), state(3, 0, 0, 0)} {
		if yes, code := impl.IsOnWay(x, 0, y); !yes || code != impl.ErrNone {
			t.Errorf("IsOnWay(%v, 0, %v) = %v, %d", x, y, yes, code)
		}
	}
	for _, y := range []impl.State{state(3, 2, 1, 2), state(3, 0, 1, 0), state(3, 1, 0, 0), state(3, 1, 1, 1), state(3, 2, 2, 2)} {
		if yes, code := impl.IsOnWay(x, 0, y); yes || code != impl.ErrNone {
			t.Errorf("IsOnWay(%v, 0, %v) = %v, %d", x, y, yes, code)
		}
	}
	for a := range int64(3) {
		if yes, code := impl.IsOnWay(state(3), a, state(3)); !yes || code != impl.ErrNone {
			t.Errorf("IsOnWay of no discs and %d = %v, %d", a, yes, code)
		}
		for b := range int64(3) {
			x, y := state(3, tower(a, 8)...), state(3, tower(b, 8)...)
			if yes, code := impl.IsOnWay(x, a, y); yes != (a == b) || code != impl.ErrNone {
				t.Errorf("IsOnWay(%v, %d, %v) = %v, %d", x, a, y, yes, code)
			}
		}
	}
}
