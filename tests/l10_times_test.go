package tests

import (
	"slices"
	"testing"

	"loop.example/g01321/impl"
)

// Discs, moves and states at times, times of states, counts of discs, and turns.

// checkMoveAt fails if the disc at t, or the move at t, is not the wanted one.
func checkMoveAt(t *testing.T, time int64, want impl.Move) {
	t.Helper()
	checkNumber(t, "DiscAt", impl.DiscAt, time, want.Disc)
	if m, code := impl.MoveAt(time); m != want || code != impl.ErrNone {
		t.Errorf("MoveAt(%d) = %v, %d, want %v", time, m, code, want)
	}
}

func TestLimitsOfTimes(t *testing.T) {
	if impl.MaxTime != 1000000000000 || impl.MaxWords != 400 {
		t.Errorf("MaxTime is %d, MaxWords is %d", int64(impl.MaxTime), impl.MaxWords)
	}
}

func TestFirstMovesByHand(t *testing.T) {
	moves := wayOfTexts(
		"0:0>1", "1:0>2", "0:1>2", "2:0>1", "0:2>0", "1:2>1", "0:0>1", "3:0>2",
		"0:1>2", "1:1>0", "0:2>0", "2:1>2", "0:0>1", "1:0>2", "0:1>2", "4:0>1", "0:2>0",
	)
	for i, want := range moves {
		checkMoveAt(t, int64(i)+1, want)
	}
}

// TestMovesByHand has powers of 2, with times beside them, and times up to MaxTime.
func TestMovesByHand(t *testing.T) {
	moves := map[int64]impl.Move{
		31: move(0, 0, 1), 32: move(5, 0, 2), 33: move(0, 1, 2),
		63: move(0, 1, 2), 64: move(6, 0, 1), 65: move(0, 2, 0),
		128: move(7, 0, 2), 255: move(0, 1, 2), 256: move(8, 0, 1), 257: move(0, 2, 0),
		1024: move(10, 0, 1), 10000: move(4, 0, 1), 1 << 20: move(20, 0, 1),
		1 << 31: move(31, 0, 2), 3 << 31: move(31, 2, 1),
		1<<32 - 1: move(0, 1, 2), 1 << 32: move(32, 0, 1), 1<<32 + 1: move(0, 2, 0),
		1 << 38: move(38, 0, 1), 3 << 38: move(38, 1, 2),
		1<<39 - 1: move(0, 0, 1), 1 << 39: move(39, 0, 2), 1<<39 + 1: move(0, 1, 2),
		impl.MaxTime - 2: move(1, 0, 2), impl.MaxTime - 1: move(0, 1, 2), impl.MaxTime: move(12, 0, 1),
	}
	for time, want := range moves {
		checkMoveAt(t, time, want)
	}
}

func TestMovesAtTimes(t *testing.T) {
	for _, time := range someTimes() {
		checkMoveAt(t, time, moveOfTime(time))
		checkNumber(t, "DiscAt", impl.DiscAt, time, halvings(time))
	}
}

// checkStateAt fails if the state at a time is not the wanted one, or does not lead back to the time.
func checkStateAt(t *testing.T, time int64, want impl.State) {
	t.Helper()
	n := int64(len(want.Discs))
	if x, code := impl.StateAt(time, n); !sameState(x, want) || code != impl.ErrNone {
		t.Errorf("StateAt(%d, %d) = %v, %d, want %v", time, n, x, code, want)
	}
	if found, code := impl.TimeOf(want); found != time || code != impl.ErrNone {
		t.Errorf("TimeOf(%v) = %d, %d, want %d", want, found, code, time)
	}
}

// TestStatesAtTimesByHand has no disc and one, and the first and the last state of all numbers of
// discs.
func TestStatesAtTimesByHand(t *testing.T) {
	cases := []struct {
		time int64
		x    impl.State
	}{
		{0, state(3)},
		{0, state(3, 0)}, {1, state(3, 1)},
		{0, state(3, 0, 0)}, {1, state(3, 1, 0)}, {2, state(3, 1, 2)}, {3, state(3, 2, 2)},
		{0, state(3, 0, 0, 0)}, {1, state(3, 1, 0, 0)}, {2, state(3, 1, 2, 0)}, {3, state(3, 2, 2, 0)},
		{4, state(3, 2, 2, 1)}, {5, state(3, 0, 2, 1)}, {6, state(3, 0, 1, 1)}, {7, state(3, 1, 1, 1)},
		{0, state(3, tower(0, 4)...)}, {7, state(3, 1, 1, 1, 0)}, {8, state(3, 1, 1, 1, 2)}, {9, state(3, 2, 1, 1, 2)},
		{15, state(3, tower(2, 4)...)},
		{0, state(3, tower(0, 5)...)}, {17, state(3, 0, 2, 2, 2, 1)}, {31, state(3, tower(1, 5)...)},
		{0, state(3, tower(0, 6)...)}, {62, state(3, 1, 2, 2, 2, 2, 2)}, {63, state(3, tower(2, 6)...)},
		{0, state(3, tower(0, 7)...)}, {64, state(3, 2, 2, 2, 2, 2, 2, 1)}, {127, state(3, tower(1, 7)...)},
		{0, state(3, tower(0, 8)...)}, {1, state(3, 1, 0, 0, 0, 0, 0, 0, 0)}, {127, state(3, 1, 1, 1, 1, 1, 1, 1, 0)},
		{128, state(3, 1, 1, 1, 1, 1, 1, 1, 2)}, {129, state(3, 2, 1, 1, 1, 1, 1, 1, 2)},
		{254, state(3, 1, 2, 2, 2, 2, 2, 2, 2)}, {255, state(3, tower(2, 8)...)},
	}
	for _, c := range cases {
		checkStateAt(t, c.time, c.x)
	}
}

// TestStatesAtTimes has all times of all numbers of discs.
func TestStatesAtTimes(t *testing.T) {
	for n := range int64(impl.MaxDiscs + 1) {
		states := statesOfTimes(n)
		if len(states) != 1<<n {
			t.Fatalf("%d discs have states at %d times", n, len(states))
		}
		for time, want := range states {
			checkStateAt(t, int64(time), want)
		}
	}
}

// TestTimesOfAllStates has the states that are at no time, too.
func TestTimesOfAllStates(t *testing.T) {
	for n := range int64(impl.MaxDiscs + 1) {
		times := map[int64]int64{}
		for time, x := range statesOfTimes(n) {
			times[rankBySum(x)] = int64(time)
		}
		for rank, x := range statesOf(3, n) {
			want, ok := times[rank]
			wantedCode := int64(impl.ErrNone)
			if !ok {
				wantedCode = impl.ErrNotFound
			}
			if time, code := impl.TimeOf(x); time != want || code != wantedCode {
				t.Errorf("TimeOf(%v) = %d, %d, want %d, %d", x, time, code, want, wantedCode)
			}
		}
	}
}

// TestCountOfDiscByHand has discs that have not moved yet, ones that have just moved, and ones that
// move next.
func TestCountOfDiscByHand(t *testing.T) {
	cases := []struct{ time, disc, want int64 }{
		{0, 0, 0}, {0, 1, 0}, {0, 40, 0},
		{1, 0, 1}, {1, 1, 0}, {2, 0, 1}, {2, 1, 1}, {3, 0, 2}, {3, 1, 1}, {3, 2, 0},
		{7, 0, 4}, {7, 1, 2}, {7, 2, 1}, {7, 3, 0}, {8, 3, 1}, {8, 4, 0},
		{100, 0, 50}, {100, 1, 25}, {100, 2, 13}, {100, 3, 6}, {100, 4, 3}, {100, 6, 1}, {100, 7, 0},
		{1<<39 - 1, 38, 1}, {1<<39 - 1, 39, 0}, {1 << 39, 39, 1}, {1 << 39, 0, 274877906944}, {1 << 39, 40, 0},
		{impl.MaxTime - 1, 12, 122070312},
		{impl.MaxTime, 0, 500000000000}, {impl.MaxTime, 1, 250000000000}, {impl.MaxTime, 12, 122070313},
		{impl.MaxTime, 13, 61035156}, {impl.MaxTime, 38, 2}, {impl.MaxTime, 39, 1}, {impl.MaxTime, 40, 0},
	}
	for _, c := range cases {
		checkNumberOf(t, "CountOfDisc", impl.CountOfDisc, c.time, c.disc, c.want)
	}
}

// TestCountOfDisc counts the moves of all discs one by one.
func TestCountOfDisc(t *testing.T) {
	counts := make([]int64, 41)
	for time := range int64(3000) {
		if time > 0 {
			counts[moveOfTime(time).Disc]++
		}
		for disc, want := range counts {
			checkNumberOf(t, "CountOfDisc", impl.CountOfDisc, time, int64(disc), want)
		}
	}
}

// TestCountOfDiscAtGreatTimes counts the times that 2^d divides and 2^(d + 1) does not.
func TestCountOfDiscAtGreatTimes(t *testing.T) {
	for _, time := range someTimes() {
		for disc := range int64(41) {
			power := int64(1) << disc
			checkNumberOf(t, "CountOfDisc", impl.CountOfDisc, time, disc, time/power-time/(2*power))
		}
	}
}

// checkTurns fails if the turns of n discs are not the wanted moves.
func checkTurns(t *testing.T, n int64, want []impl.Move) {
	t.Helper()
	if moves, code := impl.MovesByTurns(n); !slices.Equal(moves, want) || code != impl.ErrNone {
		t.Errorf("MovesByTurns(%d) = %v, %d, want %v", n, moves, code, want)
	}
}

func TestMovesByTurnsByHand(t *testing.T) {
	checkTurns(t, 0, nil)
	checkTurns(t, 1, wayOfTexts("0:0>1"))
	checkTurns(t, 2, wayOfTexts("0:0>1", "1:0>2", "0:1>2"))
	checkTurns(t, 3, wayOfTexts("0:0>1", "1:0>2", "0:1>2", "2:0>1", "0:2>0", "1:2>1", "0:0>1"))
	checkTurns(t, 4, wayOfTexts(
		"0:0>1", "1:0>2", "0:1>2", "2:0>1", "0:2>0", "1:2>1", "0:0>1", "3:0>2",
		"0:1>2", "1:1>0", "0:2>0", "2:1>2", "0:0>1", "1:0>2", "0:1>2",
	))
}

// turnsByStacks returns the turns of n discs, and whether there was just one legal move of another
// disc than 0 at each of its turns.
func turnsByStacks(n int64) ([]impl.Move, bool) {
	var turns []impl.Move
	x := state(3, tower(0, n)...)
	for len(turns) < 1<<n-1 {
		moves := []impl.Move{move(0, x.Discs[0], (x.Discs[0]+1)%3)}
		if len(turns)%2 == 1 {
			moves = slices.DeleteFunc(movesByStacks(x), func(m impl.Move) bool { return m.Disc == 0 })
		}
		if len(moves) != 1 {
			return turns, false
		}
		x = moved(x, moves[0])
		turns = append(turns, moves[0])
	}
	return turns, true
}

func TestMovesByTurns(t *testing.T) {
	for n := range int64(impl.MaxDiscs + 1) {
		turns, ok := turnsByStacks(n)
		if !ok {
			t.Fatalf("behind %v, %d discs have not just one legal move of another disc", turns, n)
		}
		checkTurns(t, n, turns)
		checkTurns(t, n, wayOfTower(n))
	}
}
