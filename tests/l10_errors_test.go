package tests

import (
	"strings"
	"testing"

	"loop.example/g01321/impl"
)

// timeCalls returns the functions of chapter 10 that take a time of at least 1.
func timeCalls() map[string]shapeCall {
	return map[string]shapeCall{
		"DiscAt":      func(t, _ int64) (bool, int64) { v, c := impl.DiscAt(t); return v == 0, c },
		"MoveAt":      func(t, _ int64) (bool, int64) { v, c := impl.MoveAt(t); return v == impl.Move{}, c },
		"LettersFrom": lettersFromCall,
	}
}

func lettersFromCall(t, n int64) (bool, int64) {
	v, c := impl.LettersFrom(t, n)
	return v == "", c
}

func stateAtCall(t, n int64) (bool, int64) {
	v, c := impl.StateAt(t, n)
	return isZeroState(v), c
}

func countOfDiscCall(t, d int64) (bool, int64) {
	v, c := impl.CountOfDisc(t, d)
	return v == 0, c
}

func letterCountsCall(t, _ int64) (bool, int64) {
	v, c := impl.LetterCounts(t)
	return len(v) == 0, c
}

func movesByTurnsCall(n, _ int64) (bool, int64) {
	v, c := impl.MovesByTurns(n)
	return len(v) == 0, c
}

func timeOfCall(x impl.State, _ int64, _ impl.State) (bool, int64) {
	v, c := impl.TimeOf(x)
	return v == 0, c
}

func TestMovesAtNoTimes(t *testing.T) {
	for name, call := range timeCalls() {
		for _, time := range append(noTimes(), 0) {
			for _, n := range append(oddNumbers(), 0, 1, 7, 400, 401) {
				checkShape(t, name, call, time, n, impl.ErrRange)
			}
		}
		for _, time := range []int64{1, 2, impl.MaxTime - 1, impl.MaxTime} {
			checkShape(t, name, call, time, 3, impl.ErrNone)
		}
	}
}

func TestLettersOfNoNumbersOfMoves(t *testing.T) {
	for _, time := range []int64{1, 2, 1 << 39, impl.MaxTime} {
		for _, n := range append(oddNumbers(), 401, 402, 800, 1<<32+7, 1<<62) {
			checkShape(t, "LettersFrom", lettersFromCall, time, n, impl.ErrRange)
		}
		checkShape(t, "LettersFrom", lettersFromCall, time, 0, impl.ErrNone)
		checkShape(t, "LettersFrom", lettersFromCall, time, 400, impl.ErrNone)
	}
}

// TestStatesAtTimesOutOfRange has the first and the last time of all numbers of discs, and the times beside
// them.
func TestStatesAtTimesOutOfRange(t *testing.T) {
	for n := range int64(impl.MaxDiscs + 1) {
		count := int64(1) << n
		for _, time := range append(oddNumbers(), count, count+1, 2*count, 256, impl.MaxTime, 1<<62) {
			checkShape(t, "StateAt", stateAtCall, time, n, impl.ErrRange)
		}
		checkShape(t, "StateAt", stateAtCall, 0, n, impl.ErrNone)
		checkShape(t, "StateAt", stateAtCall, count-1, n, impl.ErrNone)
	}
}

func TestTowersOfNoNumbersOfDiscs(t *testing.T) {
	for _, n := range noDiscNumbers() {
		for _, time := range append(oddNumbers(), 0, 1, 255, 256, 511) {
			checkShape(t, "StateAt", stateAtCall, time, n, impl.ErrRange)
		}
		checkShape(t, "MovesByTurns", movesByTurnsCall, n, 0, impl.ErrRange)
	}
	for n := range int64(impl.MaxDiscs + 1) {
		checkShape(t, "MovesByTurns", movesByTurnsCall, n, 0, impl.ErrNone)
	}
}

func TestTimesOfNoStates(t *testing.T) {
	for why, x := range noStates() {
		checkError(t, "TimeOf with "+why, timeOfCall, x, 0, impl.State{}, impl.ErrInvalid)
	}
}

// TestTimesOfOtherNumbersOfPegs has discs that are on the pegs 0, 1 and 2 alone as at a time, or as at
// none, and others: ErrRange comes before ErrNotFound.
func TestTimesOfOtherNumbersOfPegs(t *testing.T) {
	for k, n := range shapes() {
		if k == 3 {
			continue
		}
		for _, x := range statesOfTimes(n) {
			checkError(t, "TimeOf", timeOfCall, state(k, x.Discs...), 0, impl.State{}, impl.ErrRange)
		}
		for peg := range k {
			checkError(t, "TimeOf", timeOfCall, state(k, tower(peg, n)...), 0, impl.State{}, impl.ErrRange)
		}
	}
	for _, x := range otherPegs() {
		checkError(t, "TimeOf", timeOfCall, x, 0, impl.State{}, impl.ErrRange)
	}
}

// TestTimesOfStatesAtNoTime has towers on the peg to which the moves do not lead, and states of which only the
// least disc, or only the greatest one, is on another peg than at a time.
func TestTimesOfStatesAtNoTime(t *testing.T) {
	for n := int64(1); n <= impl.MaxDiscs; n++ {
		checkError(t, "TimeOf", timeOfCall, state(3, tower(3-endOf(n), n)...), 0, impl.State{}, impl.ErrNotFound)
	}
	for _, x := range []impl.State{
		state(3, 2), state(3, 2, 0), state(3, 0, 1), state(3, 1, 1), state(3, 0, 2), state(3, 2, 1),
		state(3, 0, 0, 1), state(3, 1, 1, 2), state(3, 2, 0, 0, 0),
		state(3, 2, 0, 0, 0, 0, 0, 0, 0), state(3, 0, 0, 0, 0, 0, 0, 0, 1), state(3, 0, 2, 2, 2, 2, 2, 2, 2),
		state(3, 2, 2, 2, 2, 2, 2, 2, 0), state(3, 2, 2, 2, 2, 2, 2, 2, 1),
	} {
		checkError(t, "TimeOf", timeOfCall, x, 0, impl.State{}, impl.ErrNotFound)
	}
}

// TestLettersOfNoPegs has equal pegs, and pegs that are out of range on one side or on both.
func TestLettersOfNoPegs(t *testing.T) {
	var pairs [][2]int64
	for _, odd := range noPegs() {
		pairs = append(pairs, [2]int64{odd, odd})
		for peg := range int64(3) {
			pairs = append(pairs, [2]int64{odd, peg}, [2]int64{peg, odd})
		}
		for _, other := range noPegs() {
			pairs = append(pairs, [2]int64{odd, other})
		}
	}
	for peg := range int64(3) {
		pairs = append(pairs, [2]int64{peg, peg})
	}
	for _, pair := range pairs {
		for _, disc := range append(oddNumbers(), 0, 1, 7, 8) {
			m := move(disc, pair[0], pair[1])
			if letter, code := impl.LetterOf(m); letter != "" || code != impl.ErrRange {
				t.Errorf("LetterOf(%v) = %q, %d", m, letter, code)
			}
		}
	}
}

// TestSquaresOfTextsThatAreTooLong has texts with and without squares: ErrRange comes before
// ErrNotFound.
func TestSquaresOfTextsThatAreTooLong(t *testing.T) {
	for _, n := range []int64{401, 402, 800, 4000, 100000} {
		for _, text := range []string{strings.Repeat("a", int(n)), lettersOfTimes(1, n)} {
			if begin, length, code := impl.FirstSquare(text); begin != 0 || length != 0 || code != impl.ErrRange {
				t.Errorf("FirstSquare of %d bytes = %d, %d, %d", n, begin, length, code)
			}
		}
	}
}

func TestLetterCountsOutOfRange(t *testing.T) {
	for _, time := range append(oddNumbers(), 10001, 10002, 20000, 1<<16, impl.MaxTime, 1<<62) {
		checkShape(t, "LetterCounts", letterCountsCall, time, 0, impl.ErrRange)
	}
	for _, time := range []int64{0, 1, 9999, 10000} {
		checkShape(t, "LetterCounts", letterCountsCall, time, 0, impl.ErrNone)
	}
}

func TestCountsOfDiscsOutOfRange(t *testing.T) {
	for _, disc := range append(oddNumbers(), 0, 1, 40, 41) {
		for _, time := range noTimes() {
			checkShape(t, "CountOfDisc", countOfDiscCall, time, disc, impl.ErrRange)
		}
	}
	for _, time := range []int64{0, 1, 2, impl.MaxTime - 1, impl.MaxTime} {
		for _, disc := range append(oddNumbers(), 41, 42, 62, 63, 64, 65, 256, 1<<62) {
			checkShape(t, "CountOfDisc", countOfDiscCall, time, disc, impl.ErrRange)
		}
		for disc := range int64(41) {
			checkShape(t, "CountOfDisc", countOfDiscCall, time, disc, impl.ErrNone)
		}
	}
}
