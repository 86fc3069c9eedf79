package tests

import (
	"maps"
	"slices"
	"strings"
	"testing"

	"loop.example/g01321/impl"
)

// linesWithWords returns a line of each command that wants words, which is not wrong on the new desk.
func linesWithWords() []string {
	return []string{
		"state 3:12", "goal 1", "move 0:0>1", "time 5", "lift 2 0 1", "between 3:222", "ways 3:222", "presumed 4 8", "parts 4 8",
		"text 1 7", "square abcbc",
	}
}

// wantWrong fails if a line is not wrong on a desk: its output has to be error, and nothing may change.
func wantWrong(t *testing.T, d impl.Desk, line string) {
	t.Helper()
	if next, output := impl.RunLine(d, line); output != "error" || !sameDesk(next, d) {
		t.Errorf("RunLine(%v, %.60q) = %v, %q", d, line, next, output)
	}
}

// wantRight fails if a line is wrong on a desk.
func wantRight(t *testing.T, d impl.Desk, line string) {
	t.Helper()
	if next, output := impl.RunLine(d, line); output == "error" || output == "" || isZeroDesk(next) {
		t.Errorf("RunLine(%v, %.60q) = %v, %q", d, line, next, output)
	}
}

// TestCommandsThatThereAreNot has names that only look like those of commands.
func TestCommandsThatThereAreNot(t *testing.T) {
	lines := []string{"", " ", "  ", "fly", "error", "ok", "none", "yes", "no", "0", "3:000", "0:0>1", "help", "quit", "\n", "\t", "\x00", "\xff", ";"}
	for command := range lineRules() {
		lines = append(lines, strings.ToUpper(command), strings.ToUpper(command[:1])+command[1:], command[:len(command)-1], command+"x")
		lines = append(lines, command+"\n", command+"\t", command+"\r", command+"\x00", command+";", "\n"+command, "\t"+command, command+command)
	}
	// Some names without their last letter are those of other commands.
	lines = slices.DeleteFunc(lines, func(line string) bool { _, ok := lineRules()[line]; return ok })
	for _, d := range someDesks() {
		for _, line := range lines {
			wantWrong(t, d, line)
			wantWrong(t, d, line+" ")
			wantWrong(t, d, line+" 0")
			wantWrong(t, d, line+" 3:000")
		}
	}
}

// TestLinesWithoutWords has commands that take no words, with one that is too many, which may be empty.
func TestLinesWithoutWords(t *testing.T) {
	for _, line := range plainLines() {
		if line == "word" {
			continue
		}
		for _, d := range someDesks() {
			for _, extra := range []string{"", "0", "1", " ", "  ", " 0", "0 0", line, "3:000", "0:0>1", "\n", "none"} {
				wantWrong(t, d, line+" "+extra)
				wantWrong(t, d, extra+" "+line)
			}
		}
	}
}

// TestLinesWithWords has each line of words as it should be, with each word missing, with more words,
// which may be empty, and with tabs or newlines for blanks.
func TestLinesWithWords(t *testing.T) {
	for _, line := range linesWithWords() {
		wantRight(t, firstDesk(), line)
		words := strings.Split(line, " ")
		for i := range words {
			wantWrong(t, firstDesk(), strings.Join(slices.Delete(slices.Clone(words), i, i+1), " "))
			wantWrong(t, firstDesk(), strings.Join(words[:i], " "))
		}
		for i := range len(words) + 1 {
			for _, extra := range []string{"", "0", "1", "3:000", "0:0>1", "\n"} {
				wantWrong(t, firstDesk(), strings.Join(slices.Insert(slices.Clone(words), i, extra), " "))
			}
		}
		for i := 1; i < len(words); i++ {
			empty := slices.Clone(words)
			empty[i] = ""
			wantWrong(t, firstDesk(), strings.Join(empty, " "))
		}
		for _, between := range []string{"\t", "\n", "", "  ", "\u00a0", ",", "\x00"} {
			wantWrong(t, firstDesk(), strings.Join(words, between))
		}
	}
}

// TestWordsThatAreNoNumbers has each number of a line replaced by a word that is none.
func TestWordsThatAreNoNumbers(t *testing.T) {
	odd := slices.DeleteFunc(oddWords(), func(word string) bool {
		return strings.Trim(word, "0123456789") == "" && len(word) > 0 && len(word) < 10 && (word == "0" || word[0] != '0')
	})
	if len(odd) < 40 {
		t.Fatalf("only %d words", len(odd))
	}
	for _, line := range []string{"goal 1", "time 5", "word 0", "word 0 1 2", "lift 2 0 1", "presumed 4 8", "parts 4 8", "text 1 7"} {
		wantRight(t, firstDesk(), line)
		for i, word := range strings.Split(line, " ") {
			for _, other := range odd {
				if i == 0 || other == word {
					continue
				}
				words := strings.Split(line, " ")
				words[i] = other
				wantWrong(t, firstDesk(), strings.Join(words, " "))
			}
		}
	}
}

// TestNumbersOfNineDigits has the greatest number of a line, and ones that are a digit longer.
func TestNumbersOfNineDigits(t *testing.T) {
	wantRight(t, firstDesk(), "text 999999999 1")
	wantRight(t, firstDesk(), "text 100000000 1")
	for _, line := range []string{"text 1000000000 1", "text 9999999999 1", "text 0999999999 1", "text 0000000001 1", "text 1 0000000001"} {
		wantWrong(t, firstDesk(), line)
	}
	// All of these are numbers, but not ones that the functions take.
	for _, line := range []string{"goal 999999999", "time 999999999", "word 999999999", "lift 999999999 0 1", "lift 2 999999999 1", "lift 2 0 999999999", "presumed 999999999 8", "presumed 4 999999999", "parts 4 999999999", "text 1 999999999"} {
		wantWrong(t, firstDesk(), line)
	}
}

// TestWrongLinesOfDesks has lines for which what the list asks for does not hold, or a function returns
// another code than ErrNone.
func TestWrongLinesOfDesks(t *testing.T) {
	perfect := desk([]int64{1, 1}, 1, nil, []int64{1, 0}, nil)
	none := desk(nil, 0, nil, nil, nil)
	for _, c := range []struct {
		d     impl.Desk
		lines []string
	}{
		{firstDesk(), []string{
			"state 4:000", "state 5:", "state 3:003", "state 000", "goal 3", "move 1:0>1", "move 0:0>0", "move 0:1>2", "move 0:0>3", "move 3:0>1",
			"move 8:0>1", "move 0:0>5", "time 8", "word 3", "word 0 1 2 0 1 2 0 1 2", "lift 0 0 1", "lift 2 0 0", "lift 2 1 0", "lift 2 0 3", "lift 3 0 1",
			"regular", "between 3:00", "between 3:0000", "between 4:000", "between 3:003", "between 0:0>1", "ways 3:00", "ways 3:0000", "ways 5:000", "ways 3:",
			"presumed 2 8", "presumed 11 8", "presumed 4 61", "parts 2 8", "parts 11 8", "parts 4 61", "text 0 7", "text 1 401", "square abc",
			"square a", "square " + strings.Repeat("a", 401), "square " + strings.Repeat("ab", 50000),
		}},
		{perfect, []string{"step", "lift 1 1 0", "move 1:1>0", "between 3:000", "ways 3:", "time 4"}},
		{none, []string{"step", "move 0:0>1", "time 1", "lift 0 0 1", "between 3:0", "ways 3:0"}},
		{desk(tower(2, 5), 1, nil, nil, nil), []string{"heap", "when", "between 3:2222", "time 32"}},
		{desk(tower(1, 8), 1, nil, nil, []int64{1, 2, 0}), []string{"heap", "when", "step", "regular", "time 256", "lift 2 2 0"}},
	} {
		for _, line := range c.lines {
			wantWrong(t, c.d, line)
		}
	}
}

// TestTheSameLinesOnOtherDesks has lines that are wrong on some desks, and not on these ones.
func TestTheSameLinesOnOtherDesks(t *testing.T) {
	for line, d := range map[string]impl.Desk{
		"step":          desk([]int64{1, 1}, 2, nil, nil, nil),
		"move 1:0>1":    desk([]int64{2, 0}, 1, nil, nil, nil),
		"time 255":      desk(tower(1, 8), 1, nil, nil, nil),
		"heap":          desk(tower(1, 4), 1, nil, nil, nil),
		"lift 0 0 1":    onDesk(onPeg(0, 2, 1, 0)),
		"lift 2 2 0":    onDesk(heap([]int64{3}, nil, []int64{1, 0, 2})),
		"regular":       onDesk(heap([]int64{2, 1}, nil, []int64{0})),
		"when":          desk(tower(1, 5), 1, nil, nil, nil),
		"between 3:00":  desk(tower(1, 2), 1, nil, nil, nil),
		"ways 3:":       desk(nil, 1, nil, nil, nil),
		"between 3:0":   desk(tower(1, 1), 1, nil, nil, nil),
		"goal 2":        desk(nil, 2, nil, nil, nil),
		"state 3:":      desk(tower(1, 8), 2, nil, nil, nil),
		"word":          desk(tower(1, 8), 2, nil, nil, nil),
		"presumed 10 0": desk(nil, 2, nil, nil, nil),
		"parts 3 60":    desk(nil, 2, nil, nil, nil),
	} {
		wantRight(t, d, line)
	}
}

// onDesk returns the desk with the state of one disc, the goal 1, and a heap.
func onDesk(h impl.Heap) impl.Desk {
	return desk([]int64{0}, 1, h.Stacks...)
}

// noDesks returns what is no desk, each for a reason of its own.
func noDesks() map[string]impl.Desk {
	good := firstDesk()
	desks := map[string]impl.Desk{
		"zero value": {},
		"no heap":    {State: good.State, Goal: good.Goal},
		"no state":   {Goal: good.Goal, Heap: good.Heap},
	}
	for why, x := range noStates() {
		desks["the state: "+why] = impl.Desk{State: x, Goal: good.Goal, Heap: good.Heap}
	}
	for _, x := range otherPegs() {
		desks["the state "+textOfState(x)] = impl.Desk{State: x, Goal: good.Goal, Heap: good.Heap}
	}
	for _, goal := range noPegs() {
		desks["the goal "+decimal(goal)] = impl.Desk{State: good.State, Goal: goal, Heap: good.Heap}
	}
	for why, h := range noHeaps() {
		desks["the heap: "+why] = impl.Desk{State: good.State, Goal: good.Goal, Heap: h}
	}
	return desks
}

func TestNoDesks(t *testing.T) {
	lines := slices.Concat(plainLines(), linesWithWords(), []string{"", " ", "fly", "word 0", "goal 0", "state 3:", "show ", "goal 3"})
	for why, d := range noDesks() {
		if impl.IsDesk(d) {
			t.Errorf("%s: IsDesk(%v)", why, d)
		}
		for _, line := range lines {
			if next, output := impl.RunLine(d, line); !isZeroDesk(next) || output != "" {
				t.Errorf("%s: RunLine(%v, %q) = %v, %q", why, d, line, next, output)
			}
		}
	}
}

func TestIsDesk(t *testing.T) {
	for x := range threePegStates() {
		if d := desk(x.Discs, rankBySum(x)%3, nil, nil, nil); !impl.IsDesk(d) {
			t.Errorf("IsDesk(%v) is false", d)
		}
	}
	for n, h := range allHeaps() {
		for goal := range int64(3) {
			if d := (impl.Desk{State: state(3, tower(goal, 2*n)...), Goal: goal, Heap: h}); !impl.IsDesk(d) {
				t.Errorf("IsDesk(%v) is false", d)
			}
		}
	}
	for _, d := range someDesks() {
		if !impl.IsDesk(d) {
			t.Errorf("IsDesk(%v) is false", d)
		}
	}
	bad := slices.Collect(maps.Values(noDesks()))
	for _, d := range bad {
		for _, e := range bad {
			mixed := impl.Desk{State: d.State, Goal: e.Goal, Heap: d.Heap}
			if want := mixed.Goal >= 0 && mixed.Goal <= 2 && isGoodState(mixed.State) && isGoodHeap(mixed.Heap); impl.IsDesk(mixed) != want {
				t.Errorf("IsDesk(%v) is %v", mixed, !want)
			}
		}
	}
}

// isGoodState reports whether a state is the one of the new desk.
func isGoodState(x impl.State) bool {
	return sameState(x, firstDesk().State)
}

// isGoodHeap reports whether a heap is the one of the new desk.
func isGoodHeap(h impl.Heap) bool {
	return sameHeap(h, firstDesk().Heap)
}

func TestNewDesk(t *testing.T) {
	if d := impl.NewDesk(); !sameDesk(d, firstDesk()) || !impl.IsDesk(d) {
		t.Errorf("NewDesk() = %v", d)
	}
}
