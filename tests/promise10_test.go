package tests

import (
	"slices"
	"testing"

	"loop.example/g01321/impl"
)

// Promise 10, with the guarantee of chapter 10.

// moveAt returns the move at a time.
func moveAt(t *testing.T, time int64) impl.Move {
	t.Helper()
	m, code := impl.MoveAt(time)
	wantCode(t, "MoveAt", code, impl.ErrNone)
	return m
}

// movesByTurns returns the turns of n discs.
func movesByTurns(t *testing.T, n int64) []impl.Move {
	t.Helper()
	moves, code := impl.MovesByTurns(n)
	wantCode(t, "MovesByTurns", code, impl.ErrNone)
	return moves
}

// lettersFrom returns the text of the letters of n moves from the one at a time on.
func lettersFrom(t *testing.T, time, n int64) string {
	t.Helper()
	text, code := impl.LettersFrom(time, n)
	wantCode(t, "LettersFrom", code, impl.ErrNone)
	return text
}

// letterCounts returns the counts of letters up to a time.
func letterCounts(t *testing.T, time int64) []int64 {
	t.Helper()
	counts, code := impl.LetterCounts(time)
	wantCode(t, "LetterCounts", code, impl.ErrNone)
	return counts
}

// countOfDisc returns how many moves up to a time are those of a disc.
func countOfDisc(t *testing.T, time, disc int64) int64 {
	t.Helper()
	count, code := impl.CountOfDisc(time, disc)
	wantCode(t, "CountOfDisc", code, impl.ErrNone)
	return count
}

// TestPromise10MovesByTurnsAreTheMovesAtTimes has nothing left over: the next move would be that of a
// disc that the tower lacks.
func TestPromise10MovesByTurnsAreTheMovesAtTimes(t *testing.T) {
	for n := range int64(impl.MaxDiscs + 1) {
		turns := movesByTurns(t, n)
		for i, turn := range turns {
			if m := moveAt(t, int64(i)+1); m != turn {
				t.Errorf("the turn %d of %d discs is %v, the move %v", i+1, n, turn, m)
			}
		}
		if next := moveAt(t, int64(len(turns))+1); next.Disc != n {
			t.Errorf("%d discs have %d turns, the next move is %v", n, len(turns), next)
		}
	}
}

// TestPromise10TurnsLeadTowersByLeastWays has the peg 1 for odd numbers of discs, and 2 for even ones.
func TestPromise10TurnsLeadTowersByLeastWays(t *testing.T) {
	for n := range int64(impl.MaxDiscs + 1) {
		first, last := perfectOf(t, n, 0), perfectOf(t, n, endOf(n))
		turns := movesByTurns(t, n)
		if y, code := impl.RunMoves(first, turns); !sameState(y, last) || code != impl.ErrNone {
			t.Errorf("the turns of %d discs lead to %v, %d", n, y, code)
		}
		if way, code := impl.LeastWay(first, last); !slices.Equal(way, turns) || code != impl.ErrNone {
			t.Errorf("the turns of %d discs are %v, the least way %v, %d", n, turns, way, code)
		}
	}
}

// TestPromise10TextsOfLettersHaveNoSquares has the longest texts, so that no shorter one has a square
// either.
func TestPromise10TextsOfLettersHaveNoSquares(t *testing.T) {
	for i, time := range someTimes() {
		if i%5 == 0 || time > impl.MaxTime-20 {
			checkNoSquare(t, lettersFrom(t, time, impl.MaxWords))
		}
	}
	for n := range int64(impl.MaxWords + 1) {
		checkNoSquare(t, lettersFrom(t, 1, n))
		checkNoSquare(t, lettersFrom(t, impl.MaxTime, n))
	}
}

// TestPromise10LongTextsOfLettersHaveNoSquares puts texts together, and looks for squares without the
// program, which are longer than those that FirstSquare finds.
func TestPromise10LongTextsOfLettersHaveNoSquares(t *testing.T) {
	for _, start := range []int64{1, 1 << 39, impl.MaxTime - 4000} {
		text := ""
		for i := range int64(10) {
			text += lettersFrom(t, start+i*impl.MaxWords, impl.MaxWords)
		}
		if s, ok := firstSquareOf(text); ok {
			t.Errorf("the letters from %d on have the square %v", start, s)
		}
	}
}

// TestPromise10TextsAreTheLettersOfMoves also has those of turns.
func TestPromise10TextsAreTheLettersOfMoves(t *testing.T) {
	text := func(moves []impl.Move) string {
		letters := ""
		for _, m := range moves {
			letter, code := impl.LetterOf(m)
			wantCode(t, "LetterOf", code, impl.ErrNone)
			letters += letter
		}
		return letters
	}
	for _, time := range someTimes() {
		var moves []impl.Move
		for next := time; next < time+10 && next <= impl.MaxTime; next++ {
			moves = append(moves, moveAt(t, next))
		}
		if want := text(moves); lettersFrom(t, time, int64(len(moves))) != want {
			t.Errorf("the moves from %d on have the letters %q", time, want)
		}
	}
	for n := range int64(impl.MaxDiscs + 1) {
		if want := text(movesByTurns(t, n)); lettersFrom(t, 1, 1<<n-1) != want {
			t.Errorf("the turns of %d discs have the letters %q", n, want)
		}
	}
}

// TestPromise10TimesLeadBack finds as many states at times as there are times.
func TestPromise10TimesLeadBack(t *testing.T) {
	for n := range int64(impl.MaxDiscs + 1) {
		for time := range int64(1) << n {
			x := stateAt(t, time, n)
			if back, code := impl.TimeOf(x); back != time || code != impl.ErrNone {
				t.Errorf("the state at %d is %v, which is that at %d, %d", time, x, back, code)
			}
		}
		found := int64(0)
		for _, x := range statesOf(3, n) {
			time, code := impl.TimeOf(x)
			if code == impl.ErrNotFound {
				continue
			}
			found++
			if y := stateAt(t, time, n); !sameState(x, y) || code != impl.ErrNone {
				t.Errorf("the time of %v is %d, %d, when the state is %v", x, time, code, y)
			}
		}
		if found != 1<<n {
			t.Errorf("%d states of %d discs are at a time", found, n)
		}
	}
}

// TestPromise10CountsOfLettersGoOnByLetters adds up one letter at a time.
func TestPromise10CountsOfLettersGoOnByLetters(t *testing.T) {
	counts := letterCounts(t, 0)
	for time := int64(1); time <= 3000; time++ {
		letter, code := impl.LetterOf(moveAt(t, time))
		wantCode(t, "LetterOf", code, impl.ErrNone)
		for i, one := range countsOf(letter) {
			counts[i] += one
		}
		if found := letterCounts(t, time); !slices.Equal(found, counts) || sumOf(found) != time {
			t.Fatalf("the counts up to %d are %v, those of the letters %v", time, found, counts)
		}
	}
}

// TestPromise10CountsOfDiscsGoOnByMoves also has the sums of the counts of all discs.
func TestPromise10CountsOfDiscsGoOnByMoves(t *testing.T) {
	for _, time := range someTimes() {
		disc, code := impl.DiscAt(time)
		wantCode(t, "DiscAt", code, impl.ErrNone)
		sum := int64(0)
		for d := range int64(41) {
			count, before := countOfDisc(t, time, d), countOfDisc(t, time-1, d)
			if d == disc && count != before+1 || d != disc && count != before {
				t.Errorf("the disc %d has %d moves up to %d, and %d before; the move is that of %d", d, count, time, before, disc)
			}
			sum += count
		}
		if sum != time {
			t.Errorf("all discs together have %d moves up to %d", sum, time)
		}
	}
}

// TestPromise10DiscsAreRingsOfSteps has ruler lists and shares of discs, too.
func TestPromise10DiscsAreRingsOfSteps(t *testing.T) {
	for i, ring := range ringsOfSteps(t, impl.MaxRings) {
		checkNumber(t, "DiscAt", impl.DiscAt, int64(i)+1, ring)
	}
	for n := range int64(impl.MaxDiscs + 1) {
		for i, disc := range rulerList(t, n) {
			checkNumber(t, "DiscAt", impl.DiscAt, int64(i)+1, disc)
		}
		for disc := range n {
			checkNumberOf(t, "CountOfDisc", impl.CountOfDisc, 1<<n-1, disc, shareOfDisc(t, n, disc))
		}
	}
}
