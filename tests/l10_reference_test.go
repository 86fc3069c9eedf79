package tests

import (
	"math"
	"slices"
	"strings"

	"loop.example/g01321/impl"
)

// What chapter 10 returns is held against ways by recursion, counts one by one, and squares found by
// rows of equal bytes; none of these calls the program.

// discsOfAllTimes is a number of discs whose way has more than MaxTime and MaxWords moves.
const discsOfAllTimes = 41

// endOf returns the peg to which the moves at 1 to 2^n - 1 lead a tower of n discs.
func endOf(n int64) int64 {
	if n%2 == 0 {
		return 2
	}
	return 1
}

// moveByHalves returns the move at t of the way of n discs from a peg to another one: the one in the
// middle is that of the greatest disc, and all others are ways of the lesser ones.
func moveByHalves(n, from, to, t int64) impl.Move {
	middle, third := int64(1)<<(n-1), 3-from-to
	switch {
	case t < middle:
		return moveByHalves(n-1, from, third, t)
	case t > middle:
		return moveByHalves(n-1, third, to, t-middle)
	}
	return move(n-1, from, to)
}

// moveOfTime returns the move at t.
func moveOfTime(t int64) impl.Move {
	return moveByHalves(discsOfAllTimes, 0, endOf(discsOfAllTimes), t)
}

// wayOfTower returns the moves at 1 to 2^n - 1.
func wayOfTower(n int64) []impl.Move {
	return wayByRecursion(tower(0, n), endOf(n))
}

// statesOfTimes returns the states of a tower of n discs behind the moves at 1 to t, for each t in
// 0..2^n - 1.
func statesOfTimes(n int64) []impl.State {
	states := []impl.State{state(3, tower(0, n)...)}
	for _, m := range wayOfTower(n) {
		states = append(states, moved(states[len(states)-1], m))
	}
	return states
}

// someTimes returns times up to 3000, times around powers of 2 and around three and five times these,
// and times up to MaxTime, which is the last one, also with its lowest bits made all 0, or all 1.
func someTimes() []int64 {
	var times []int64
	add := func(t int64) {
		if t >= 1 && t <= impl.MaxTime {
			times = append(times, t)
		}
	}
	for t := int64(1); t <= 3000; t++ {
		add(t)
		add(t * 314159265)
		add(impl.MaxTime - 3000 + t)
	}
	for power := int64(1); power <= impl.MaxTime; power *= 2 {
		for _, t := range []int64{power, 3 * power, 5 * power} {
			add(t - 1)
			add(t)
			add(t + 1)
		}
		add(impl.MaxTime &^ (power - 1))
		add(impl.MaxTime | (power - 1))
	}
	slices.Sort(times)
	return slices.Compact(times)
}

// noTimes returns numbers that are less than each time, or greater.
func noTimes() []int64 {
	return []int64{
		-1, -2, -impl.MaxTime, -(1 << 32), math.MinInt64, math.MinInt64 + 1,
		impl.MaxTime + 1, impl.MaxTime + 2, 1 << 40, 2 * impl.MaxTime, 1 << 62, math.MaxInt64,
	}
}

// lettersOfPegs returns the letters by the pegs From and To.
func lettersOfPegs() map[[2]int64]string {
	return map[[2]int64]string{
		{0, 1}: "a", {1, 2}: "b", {2, 0}: "c",
		{1, 0}: "A", {2, 1}: "B", {0, 2}: "C",
	}
}

// letterOfTime returns the letter of the move at t.
func letterOfTime(t int64) string {
	m := moveOfTime(t)
	return lettersOfPegs()[[2]int64{m.From, m.To}]
}

// lettersOfTimes returns the text of the letters of n moves from the one at t on.
func lettersOfTimes(t, n int64) string {
	var text strings.Builder
	for i := range n {
		text.WriteString(letterOfTime(t + i))
	}
	return text.String()
}

// square has the byte at which a square begins, and the length of its part.
type square struct {
	begin  int64
	length int64
}

// squaresOf returns all squares of a text. One with a length is where as many bytes in a row are met
// again this length later.
func squaresOf(text string) []square {
	var all []square
	for length := 1; length < len(text); length++ {
		row := 0
		for i := range len(text) - length {
			row++
			if text[i] != text[i+length] {
				row = 0
			}
			if row >= length {
				all = append(all, square{begin: int64(i - length + 1), length: int64(length)})
			}
		}
	}
	return all
}

// firstSquareOf returns the first square of a text, and whether it has one.
func firstSquareOf(text string) (square, bool) {
	all := squaresOf(text)
	if len(all) == 0 {
		return square{}, false
	}
	first := all[0]
	for _, s := range all {
		if s.begin < first.begin || s.begin == first.begin && s.length < first.length {
			first = s
		}
	}
	return first, true
}

// textsOf returns all texts of n letters among some.
func textsOf(letters string, n int) []string {
	texts := []string{""}
	for range n {
		var longer []string
		for _, text := range texts {
			for i := range len(letters) {
				longer = append(longer, text+letters[i:i+1])
			}
		}
		texts = longer
	}
	return texts
}
