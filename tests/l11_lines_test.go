package tests

import (
	"fmt"
	"iter"
	"math/rand/v2"
	"strconv"
	"strings"
	"testing"

	"loop.example/g01321/impl"
)

// plainLines returns the lines that are a command alone.
func plainLines() []string {
	return []string{
		"step", "word", "heap", "regular", "show", "look", "see", "moves", "distance", "way", "goals",
		"letters", "when", "far", "wrong", "reset",
	}
}

// someDesks returns the new desk and others: without discs and with the most of them, with each goal, with
// empty pegs, and with heaps that are regular and not.
func someDesks() []impl.Desk {
	return []impl.Desk{
		firstDesk(),
		desk(nil, 0, nil, nil, nil),
		desk([]int64{1}, 1, nil, []int64{0}, nil),
		desk([]int64{1, 0}, 2, nil, nil, []int64{0, 1}),
		desk([]int64{2, 1, 0}, 0, []int64{2}, []int64{1}, []int64{0}),
		desk([]int64{2, 2, 1}, 1, []int64{1, 0}, nil, []int64{2}),
		desk([]int64{2, 2, 2, 2}, 2, nil, nil, []int64{3, 2, 1, 0}),
		desk([]int64{1, 0, 2, 1}, 0, []int64{0, 3}, []int64{1, 2}, nil),
		desk([]int64{0, 0, 0, 1, 2}, 1, nil, []int64{0, 1, 2, 3}, nil),
		desk(tower(0, 8), 2, []int64{3}, []int64{2, 0}, []int64{1}),
		desk(tower(1, 8), 1, nil, nil, nil),
		desk([]int64{0, 1, 2, 2, 1, 0, 0, 2}, 0, []int64{1}, nil, []int64{2, 0}),
	}
}

// TestLinesByHand has lines one after the other, beginning with the new desk.
func TestLinesByHand(t *testing.T) {
	d := impl.NewDesk()
	for i, c := range [][2]string{
		{"show", "3:000"}, {"look", "2"}, {"see", "012//"}, {"moves", "0:0>1;0:0>2"}, {"distance", "7"},
		{"way", "0:0>2;1:0>1;0:2>1;2:0>2;0:1>0;1:1>2;0:0>2"}, {"goals", "2 1 2"}, {"letters", "0 0 0"},
		{"when", "0"}, {"far", "3"}, {"wrong", "3"}, {"regular", "error"},
		{"step", "3:002"}, {"step", "3:012"}, {"show", "3:012"}, {"distance", "5"},
		{"way", "0:2>1;2:0>2;0:1>0;1:1>2;0:0>2"}, {"goals", "1 1 2"}, {"letters", "0 2 0"}, {"when", "error"},
		{"moves", "0:2>0;0:2>1;1:1>0"}, {"move 1:1>0", "3:002"}, {"move 0:1>0", "error"}, {"move 0:2>1", "3:001"},
		{"between 3:000", "1"}, {"between 3:222", "7"}, {"between 3:001", "0"}, {"ways 3:222", "1"}, {"ways 3:001", "1"},
		{"goal 0", "0"}, {"look", "0"}, {"distance", "1"}, {"way", "0:1>0"}, {"time 5", "3:120"}, {"when", "5"},
		{"letters", "1 0 1"}, {"time 7", "3:111"}, {"time 8", "error"}, {"step", "3:110"}, {"goal 2", "2"}, {"when", "6"},
		{"word 2 1", "3:10"}, {"letters", "2 1"}, {"ways 3:22", "1"}, {"goal 3", "error"}, {"look", "2"},
		{"word", "3:"}, {"moves", "none"}, {"way", "none"}, {"goals", "none"}, {"letters", "none"},
		{"distance", "0"}, {"step", "error"}, {"when", "0"}, {"time 0", "3:"}, {"time 1", "error"}, {"between 3:", "0"},
		{"ways 3:", "1"}, {"heap", "//"}, {"see", "//"}, {"far", "0"}, {"wrong", "0"}, {"regular", "3:"},
		{"state 3:01221", "3:01221"}, {"heap", "error"}, {"see", "//"}, {"state 4:0122", "error"}, {"show", "3:01221"},
		{"state 3:0122", "3:0122"}, {"heap", "3/2/10"}, {"wrong", "0"}, {"far", "11"},
		{"lift 0 2 1", "3/20/1"}, {"lift 1 2 0", "31/20/"}, {"lift 3 0 2", "error"}, {"see", "31/20/"}, {"regular", "3:0101"},
		{"reset", "ok"}, {"lift 1 0 1", "error"}, {"lift 2 0 1", "01/2/"}, {"far", "3"}, {"wrong", "1"},
		{"lift 1 0 2", "0/2/1"}, {"far", "7"}, {"regular", "3:120"}, {"goal 1", "1"}, {"far", "2"},
		{"reset", "ok"}, {"show", "3:000"}, {"look", "2"}, {"see", "012//"},
		{"presumed 4 8", "33"}, {"presumed 10 60", "281"}, {"presumed 3 60", "1152921504606846975"}, {"presumed 2 8", "error"},
		{"parts 4 8", "4 4"}, {"parts 5 8", "2 3 3"}, {"parts 3 0", "0"}, {"parts 10 60", "9 8 7 6 10 10 6 4"},
		{"text 1 7", "aCbacBa"}, {"text 6 0", "none"}, {"text 999999999 5", "bAcBa"}, {"text 1000000000 5", "error"},
		{"square abcbc", "1 2"}, {"square aa", "0 1"}, {"square abc", "error"}, {"square abcabcabc", "0 3"},
		{"state 3:22222222", "3:22222222"}, {"when", "255"}, {"goal 1", "1"}, {"step", "3:22222220"}, {"distance", "254"},
		{"time 255", "3:22222222"}, {"time 256", "error"}, {"goals", "0 1 0 1 0 1 0 1"}, {"fly", "error"}, {"show", "3:22222222"},
	} {
		next, output := impl.RunLine(d, c[0])
		if output != c[1] || output == "error" && !sameDesk(next, d) {
			t.Fatalf("the line %d, %q, has the output %q and leads to %v, want %q", i, c[0], output, next, c[1])
		}
		d = next
	}
	if want := desk(tower(2, 8), 1, []int64{0, 1, 2}, nil, nil); !sameDesk(d, want) {
		t.Errorf("the desk at the end is %v, want %v", d, want)
	}
}

// TestLinesOfDesksByHand has lines that change one part of a desk, and the desk behind them.
func TestLinesOfDesksByHand(t *testing.T) {
	d := desk([]int64{1, 0, 2}, 1, []int64{1}, nil, []int64{2, 0})
	for line, want := range map[string]impl.Desk{
		"state 3:12": desk([]int64{2, 1}, 1, []int64{1}, nil, []int64{2, 0}),
		"goal 0":     desk([]int64{1, 0, 2}, 0, []int64{1}, nil, []int64{2, 0}),
		"move 1:0>2": desk([]int64{1, 2, 2}, 1, []int64{1}, nil, []int64{2, 0}),
		"step":       desk([]int64{0, 0, 2}, 1, []int64{1}, nil, []int64{2, 0}),
		"time 6":     desk([]int64{0, 1, 1}, 1, []int64{1}, nil, []int64{2, 0}),
		"word 1 0 1": desk([]int64{0, 2, 1}, 1, []int64{1}, nil, []int64{2, 0}),
		"heap":       desk([]int64{1, 0, 2}, 1, []int64{1}, []int64{0}, []int64{2}),
		"lift 0 2 1": desk([]int64{1, 0, 2}, 1, []int64{1}, []int64{0}, []int64{2}),
		"regular":    desk([]int64{2, 0, 2}, 1, []int64{1}, nil, []int64{2, 0}),
		"reset":      firstDesk(),
		"show":       d, "look": d, "see": d, "moves": d, "distance": d, "way": d, "goals": d,
		"between 3:000": d, "ways 3:000": d, "letters": d, "when": d, "far": d, "wrong": d,
		"presumed 4 8": d, "parts 4 8": d, "text 1 7": d, "square aa": d,
	} {
		if next, output := impl.RunLine(d, line); !sameDesk(next, want) || output == "error" && line != "when" {
			t.Errorf("%q leads to %v, want %v, the output is %q", line, next, want, output)
		}
	}
}

// TestPlainLinesOfStates has all states, with all goals.
func TestPlainLinesOfStates(t *testing.T) {
	for x := range threePegStates() {
		for goal := range int64(3) {
			d := desk(x.Discs, goal, []int64{1}, nil, []int64{0})
			for _, line := range plainLines() {
				if goal == 0 || line == "step" || line == "distance" || line == "way" || line == "goals" {
					checkLine(t, d, line)
				}
			}
		}
	}
}

// TestPlainLinesOfHeaps has all heaps, with all goals.
func TestPlainLinesOfHeaps(t *testing.T) {
	for _, h := range allHeaps() {
		for goal := range int64(3) {
			d := impl.Desk{State: state(3, 0, 2), Goal: goal, Heap: h}
			for _, line := range plainLines() {
				checkLine(t, d, line)
			}
		}
	}
}

func TestPlainLinesOfDesks(t *testing.T) {
	for _, d := range someDesks() {
		for _, line := range plainLines() {
			checkLine(t, d, line)
		}
	}
}

// TestStateLines has all texts of states with three pegs, and texts of other ones and of none.
func TestStateLines(t *testing.T) {
	for i, d := range someDesks() {
		for rank, x := range allStates() {
			if i < 2 || rank%29 == 0 {
				checkLine(t, d, "state "+textOfState(x))
			}
		}
		for _, text := range noStateTexts() {
			checkLine(t, d, "state "+text)
		}
	}
}

// noStateTexts returns texts of no states of three pegs.
func noStateTexts() []string {
	return []string{
		"", "3", ":", "3:3", "3:0a", "3:000000000", "3:-1", "03:0", "3;0", "4:", "4:0", "4:3", "5:", "5:012", "2:0", "6:0",
		"3:0\n", "3:\t", "3:\x00", "3:0\xff", "3:٠", "3:" + strings.Repeat("0", 5000),
	}
}

func TestGoalLines(t *testing.T) {
	for _, d := range someDesks() {
		for goal := range int64(300) {
			checkLine(t, d, fmt.Sprint("goal ", goal))
		}
		for _, word := range oddWords() {
			checkLine(t, d, "goal "+word)
		}
	}
}

// oddWords returns words that are numbers, and words that are none, with all their kinds of faults.
func oddWords() []string {
	return []string{
		"0", "1", "2", "3", "9", "10", "100", "256", "999999999", "123456789", "1000000000", "1234567890", "4294967296", "4294967297",
		"18446744073709551616", "18446744073709551617", "00", "01", "02", "000", "0000000000", "0000000001", "000000001", "00000001",
		"+0", "+1", "+2", "-0", "-1", "-2", "+", "-", "--1", "1-", "1+", "", "a", "1a", "a1", "0x1", "0b1", "0o1", "1e0", "1.", "1.0", ".1",
		"1_0", "1,0", "1;", "\t1", "1\t", "1\n", "\n1", "1\r", "\x001", "1\x00", "1\xff", "١", "１", "²", "one", "0:0>1", "3:000", "none",
		strings.Repeat("1", 1000), strings.Repeat("0", 1000),
	}
}

// TestMoveLines has all texts of moves in all states of at most three discs, and in some others.
func TestMoveLines(t *testing.T) {
	var texts []string
	for _, m := range someMoves() {
		texts = append(texts, textOfMoves([]impl.Move{m}))
	}
	texts = append(texts, "", "0", "0:0>", "00:0>1", "0:0>1;0:1>2", "0:0>01", "0:0<1", "0;0>1", "0:0>1\n", "a:0>1", "none", "0:0>\xff")
	for x := range threePegStates() {
		if len(x.Discs) > 3 && rankBySum(x)%97 != 0 {
			continue
		}
		for _, text := range texts {
			checkLine(t, desk(x.Discs, 1, nil, nil, nil), "move "+text)
		}
	}
}

// TestTimeLines has all times of all numbers of discs, from some states of each of them.
func TestTimeLines(t *testing.T) {
	for n := range int64(impl.MaxDiscs + 1) {
		mixed := tower(2, n)
		for i := range mixed {
			mixed[i] = int64(i) % 3
		}
		for _, discs := range [][]int64{tower(0, n), tower(1, n), mixed} {
			for time := range int64(520) {
				checkLine(t, desk(discs, 0, nil, []int64{0}, nil), fmt.Sprint("time ", time))
			}
			for _, word := range oddWords() {
				checkLine(t, desk(discs, 2, nil, []int64{0}, nil), "time "+word)
			}
		}
	}
}

// TestWordLines has the words of all states of three pegs, from desks with other numbers of discs.
func TestWordLines(t *testing.T) {
	desks := someDesks()
	i := 0
	for word := range statesOfWords() {
		checkLine(t, desks[i%len(desks)], "word"+word)
		i++
	}
	for _, d := range desks {
		for _, word := range oddWords() {
			for _, line := range []string{"word " + word, "word 0 " + word, "word " + word + " 2", "word 0 1 2 0 1 2 0 " + word, "word 0 1 2 0 1 2 0 1 " + word} {
				checkLine(t, d, line)
			}
		}
		for count := range 20 {
			checkLine(t, d, "word"+strings.Repeat(" 1", count))
			checkLine(t, d, "word"+strings.Repeat(" 2", count)+" ")
			checkLine(t, d, "word"+strings.Repeat(" ", count))
		}
		checkLine(t, d, "word"+strings.Repeat(" 0", 3000))
	}
}

// liftLines ranges over the lines that lift discs, ones that no heap has among them.
func liftLines() iter.Seq[string] {
	return func(yield func(string) bool) {
		for disc := range 6 {
			for from := range 5 {
				for to := range 5 {
					if !yield(fmt.Sprint("lift ", disc, " ", from, " ", to)) {
						return
					}
				}
			}
		}
	}
}

// TestLiftLines has all heaps.
func TestLiftLines(t *testing.T) {
	for _, h := range allHeaps() {
		for line := range liftLines() {
			checkLine(t, impl.Desk{State: state(3, 1), Goal: 1, Heap: h}, line)
		}
	}
	for _, d := range someDesks() {
		for _, word := range oddWords() {
			for _, line := range []string{"lift " + word + " 0 1", "lift 0 " + word + " 1", "lift 0 0 " + word, "lift 2 " + word + " 1", "lift 2 0 " + word} {
				checkLine(t, d, line)
			}
		}
	}
}

// TestPairLines has all pairs of at most four discs, and some others.
func TestPairLines(t *testing.T) {
	for x, y := range threePegPairs() {
		if len(x.Discs) > 4 && (rankBySum(x)+rankBySum(y))%7 != 0 {
			continue
		}
		d, text := desk(x.Discs, 0, nil, nil, nil), textOfState(y)
		checkLine(t, d, "between "+text)
		checkLine(t, d, "ways "+text)
	}
}

// TestPairLinesOfOtherStates has states of other numbers of discs, or of pegs, and texts of none.
func TestPairLinesOfOtherStates(t *testing.T) {
	for _, d := range someDesks() {
		texts := noStateTexts()
		for k, n := range shapes() {
			texts = append(texts, textOfState(state(k, tower(0, n)...)), textOfState(state(k, tower(k-1, n)...)))
		}
		for _, text := range texts {
			checkLine(t, d, "between "+text)
			checkLine(t, d, "ways "+text)
		}
	}
}

// TestPresumedLines has all numbers of pegs and discs that have presumed numbers, and ones that have none.
func TestPresumedLines(t *testing.T) {
	for p := range 13 {
		for n := range 66 {
			checkLine(t, firstDesk(), fmt.Sprint("presumed ", p, " ", n))
			checkLine(t, firstDesk(), fmt.Sprint("parts ", p, " ", n))
		}
	}
	for _, d := range someDesks() {
		for _, word := range oddWords() {
			for _, line := range []string{"presumed 4 " + word, "presumed " + word + " 4", "parts 5 " + word, "parts " + word + " 5"} {
				checkLine(t, d, line)
			}
		}
	}
}

// TestTextLines has all numbers of letters, and times of up to nine digits.
func TestTextLines(t *testing.T) {
	for n := range impl.MaxWords + 3 {
		checkLine(t, firstDesk(), fmt.Sprint("text 1 ", n))
		checkLine(t, firstDesk(), fmt.Sprint("text 999999999 ", n))
	}
	for i, time := range someTimes() {
		if i%23 == 0 || time > 1<<29 && time < 1<<31 {
			checkLine(t, firstDesk(), fmt.Sprint("text ", time, " ", i%30))
		}
	}
	for _, d := range someDesks() {
		for _, word := range oddWords() {
			checkLine(t, d, "text 5 "+word)
			checkLine(t, d, "text "+word+" 5")
		}
	}
}

// TestSquareLines has all texts of at most six of three letters, texts of any bytes but blanks, and texts
// of 400 and more bytes.
func TestSquareLines(t *testing.T) {
	var texts []string
	for n := range 7 {
		texts = append(texts, textsOf("abc", n)...)
	}
	for b := range 256 {
		one := string([]byte{byte(b)})
		texts = append(texts, one, "x"+one+one, one+"x"+one+"x", one+"xyz")
	}
	texts = append(texts, lettersOfTimes(1, 400), lettersOfTimes(1, 401), lettersOfTimes(3, 399)+"a", strings.Repeat("a", 400), strings.Repeat("a", 401))
	texts = append(texts, lettersOfTimes(1, 398)+"xx", lettersOfTimes(1, 399)+"xx", lettersOfTimes(1, 200)+lettersOfTimes(1, 200))
	for _, d := range []impl.Desk{firstDesk(), desk(nil, 0, nil, nil, nil)} {
		for _, text := range texts {
			checkLine(t, d, "square "+text)
		}
	}
}

// TestLinesOneAfterTheOther goes from desk to desk.
func TestLinesOneAfterTheOther(t *testing.T) {
	d := firstDesk()
	for line := range drawnLines(20000) {
		d = checkLine(t, d, line)
	}
}

// drawnLines ranges over some of the lines of someLines, in an order that is the same at every run.
func drawnLines(count int) iter.Seq[string] {
	return func(yield func(string) bool) {
		lines, draw := someLines(), rand.New(rand.NewPCG(11, 40))
		for range count {
			if !yield(lines[draw.IntN(len(lines))]) {
				return
			}
		}
	}
}

// someLines returns lines of each command, with words that suit some desk, or none.
func someLines() []string {
	lines := append(plainLines(), plainLines()...)
	for i := range 24 {
		number := strconv.Itoa(i)
		lines = append(lines, "time "+number, "text "+number+" 3", "text 5 "+number, "parts 4 "+number, "presumed "+number+" 7")
		lines = append(lines, "goal "+strconv.Itoa(i%4), "step", "step", "step", "far", "wrong", "regular", "heap")
	}
	for n := range int64(5) {
		for rank, x := range statesOf(3, n) {
			if text := textOfState(x); rank%5 == 0 {
				lines = append(lines, "state "+text, "between "+text, "ways "+text)
			}
		}
	}
	for disc := range 5 {
		for from := range 3 {
			for to := range 3 {
				lines = append(lines, fmt.Sprintf("lift %d %d %d", disc, from, to), fmt.Sprintf("move %d:%d>%d", disc, from, to))
			}
		}
	}
	return append(lines, "word 0", "word 2 1", "word 1 1 0", "word 0 1 2 2", "word 0 3", "state 3:01201201", "square abab", "square abc", " ", "show ", " show", "fly")
}
