package tests

import (
	"fmt"
	"strings"
	"testing"

	"loop.example/g01321/impl"
)

// consoleByReference returns the outputs of the lines of a text, and the desk after them, or false if it
// has too many bytes or lines.
func consoleByReference(text string) (string, impl.Desk, bool) {
	count := strings.Count(text, "\n")
	if text != "" && text[len(text)-1] != '\n' {
		count++
	}
	if len(text) > 4000 || count > 40 {
		return "", impl.Desk{}, false
	}
	d, outputs := firstDesk(), ""
	for line := range strings.SplitSeq(text, "\n") {
		if line == "" {
			continue
		}
		next, output := lineByReference(d, line)
		d = next
		outputs += output + "\n"
	}
	return outputs, d, true
}

// checkConsole fails if Console or DeskAfter does not return what the reference does.
func checkConsole(t *testing.T, text string) {
	t.Helper()
	want, wantedDesk, wantedOk := consoleByReference(text)
	if outputs := impl.Console(text); outputs != want {
		t.Errorf("Console(%.80q), %d bytes = %q, want %q", text, len(text), outputs, want)
	}
	if d, ok := impl.DeskAfter(text); ok != wantedOk || !sameDesk(d, wantedDesk) || !ok && !isZeroDesk(d) {
		t.Errorf("DeskAfter(%.80q), %d bytes = %v, %v, want %v, %v", text, len(text), d, ok, wantedDesk, wantedOk)
	}
}

// consoleCase has the outputs and the desk after a text, by hand.
type consoleCase struct {
	text    string
	outputs string
	d       impl.Desk
}

// checkConsoleCase fails if Console refuses a text, or does not return what was found by hand.
func checkConsoleCase(t *testing.T, c consoleCase) {
	t.Helper()
	if outputs := impl.Console(c.text); outputs != c.outputs {
		t.Errorf("Console(%.80q) = %q, want %q", c.text, outputs, c.outputs)
	}
	if d, ok := impl.DeskAfter(c.text); !ok || !sameDesk(d, c.d) {
		t.Errorf("DeskAfter(%.80q) = %v, %v, want %v", c.text, d, ok, c.d)
	}
}

func TestConsoleByHand(t *testing.T) {
	irregular := []int64{0, 1, 2}
	for _, c := range []consoleCase{
		{"distance", "7\n", firstDesk()},
		{"step\nstep\ndistance\n", "3:002\n3:012\n5\n", desk([]int64{2, 1, 0}, 2, irregular, nil, nil)},
		{"goal 1\nway", "1\n0:0>1;1:0>2;0:1>2;2:0>1;0:2>0;1:2>1;0:0>1\n", desk([]int64{0, 0, 0}, 1, irregular, nil, nil)},
		{"heap\nsee\nlift 0 0 2\nregular\nlook", "210//\n210//\n21//0\n3:002\n2\n", desk([]int64{2, 0, 0}, 2, []int64{2, 1}, nil, []int64{0})},
		{"fly\nmove 1:0>1\nmove 0:0>1\n\nmoves", "error\nerror\n3:001\n0:1>0;0:1>2;1:0>2\n", desk([]int64{1, 0, 0}, 2, irregular, nil, nil)},
		{"word 2 2\nletters\nwhen\ngoal 0\nreset\nshow", "3:22\n2 2\n3\n0\nok\n3:000\n", firstDesk()},
		{"word\nmoves\nheap\nsee\ngoal 0", "3:\nnone\n//\n//\n0\n", desk(nil, 0, nil, nil, nil)},
		{"time 4\nwhen\ntime 8\nwhen\nparts 4 8\nsquare aa\ntext 1 0", "3:122\n4\nerror\n4\n4 4\n0 1\nnone\n", desk([]int64{2, 2, 1}, 2, irregular, nil, nil)},
	} {
		checkConsoleCase(t, c)
	}
}

// TestEmptyLines has texts without lines, and lines among which there are empty ones: these are left out,
// but lines of blanks are not.
func TestEmptyLines(t *testing.T) {
	for text, want := range map[string]string{
		"":                            "",
		"\n":                          "",
		"\n\n\n":                      "",
		"show":                        "3:000\n",
		"show\n":                      "3:000\n",
		"show\n\n":                    "3:000\n",
		"\nshow":                      "3:000\n",
		"\n\n\nshow\n\n\nlook\n\nsee": "3:000\n2\n012//\n",
		" ":                           "error\n",
		"\n \n":                       "error\n",
		"show\n \nlook":               "3:000\nerror\n2\n",
		"show \n show":                "error\nerror\n",
		"show\r\nshow":                "error\n3:000\n",
		"show\rlook":                  "error\n",
		"\r\n":                        "error\n",
		"show\x00\nlook":              "error\n2\n",
		"\xff\nshow":                  "error\n3:000\n",
		"show\u2028look":              "error\n",
	} {
		checkConsoleCase(t, consoleCase{text, want, firstDesk()})
	}
}

// TestNumbersOfLines has texts of up to more than MaxLines lines, all of them empty, none, and some.
func TestNumbersOfLines(t *testing.T) {
	for count := range 90 {
		for _, line := range []string{"", "show", "step", "\nstep", "step\n", "fly"} {
			lines := strings.Repeat(line+"\n", count)
			for _, text := range []string{lines, lines + "look", "look\n" + lines, strings.TrimSuffix(lines, "\n")} {
				checkConsole(t, text)
			}
		}
	}
}

// TestMaxLines has exactly MaxLines lines, which are not refused, and one more.
func TestMaxLines(t *testing.T) {
	for _, text := range []string{
		strings.Repeat("show\n", 40), strings.Repeat("show\n", 39) + "show", strings.Repeat("\n", 39) + "show", strings.Repeat("\n", 40),
		"show" + strings.Repeat("\n", 40), strings.Repeat("\n", 20) + strings.Repeat("show\n", 20), strings.Repeat("show\n\n", 20),
	} {
		checkConsoleCase(t, consoleCase{text, strings.Repeat("3:000\n", strings.Count(text, "show")), firstDesk()})
		for _, more := range []string{text + "\n\n", "\n" + text, "show\n" + text, strings.TrimSuffix(text, "\n") + "\nshow"} {
			wantRefused(t, more)
		}
	}
	for _, count := range []int{41, 42, 80, 400, 4000} {
		wantRefused(t, strings.Repeat("\n", count))
		wantRefused(t, strings.Repeat("\n", count-1)+"x")
	}
}

// wantRefused fails if a text is not refused because of its limits.
func wantRefused(t *testing.T, text string) {
	t.Helper()
	if outputs := impl.Console(text); outputs != "" {
		t.Errorf("Console of %d bytes and %d newlines = %.80q", len(text), strings.Count(text, "\n"), outputs)
	}
	if d, ok := impl.DeskAfter(text); ok || !isZeroDesk(d) {
		t.Errorf("DeskAfter of %d bytes and %d newlines = %v, %v", len(text), strings.Count(text, "\n"), d, ok)
	}
}

// TestMaxConsole has texts of exactly MaxConsole bytes, which are not refused, and of more.
func TestMaxConsole(t *testing.T) {
	for _, c := range []consoleCase{
		{"goal 0\n" + strings.Repeat("x", 3993), "0\nerror\n", desk([]int64{0, 0, 0}, 0, []int64{0, 1, 2}, nil, nil)},
		{strings.Repeat("x", 3993) + "\ngoal 0", "error\n0\n", desk([]int64{0, 0, 0}, 0, []int64{0, 1, 2}, nil, nil)},
		{strings.Repeat("x", 3992) + "\ngoal 0\n", "error\n0\n", desk([]int64{0, 0, 0}, 0, []int64{0, 1, 2}, nil, nil)},
		{strings.Repeat(" ", 4000), "error\n", firstDesk()},
		{strings.Repeat("é", 2000), "error\n", firstDesk()},
		{"word" + strings.Repeat(" 0", 1998), "error\n", firstDesk()},
		{strings.Repeat(strings.Repeat("y", 99)+"\n", 40), strings.Repeat("error\n", 40), firstDesk()},
	} {
		if len(c.text) != impl.MaxConsole {
			t.Fatalf("%.20q has %d bytes", c.text, len(c.text))
		}
		checkConsoleCase(t, c)
		checkConsole(t, c.text[1:])
		for _, more := range []string{c.text + "x", "x" + c.text, c.text + "\n", "\n" + c.text, c.text + "\nshow", c.text + c.text} {
			wantRefused(t, more)
		}
	}
	wantRefused(t, strings.Repeat("é", 2001))
	wantRefused(t, strings.Repeat("show ", 1000000))
	wantRefused(t, strings.Repeat("show\n", 1000000))
}

// TestConsoleOfLongOutputs has as many of the longest ways as there may be lines.
func TestConsoleOfLongOutputs(t *testing.T) {
	text := "state 3:00000000\n" + strings.Repeat("way\n", 19) + strings.Repeat("text 999999999 400\n", 20)
	way := textOfMoves(wayByRecursion(tower(0, 8), 2))
	want := "3:00000000\n" + strings.Repeat(way+"\n", 19) + strings.Repeat(lettersOfTimes(999999999, 400)+"\n", 20)
	checkConsoleCase(t, consoleCase{text, want, desk(tower(0, 8), 2, []int64{0, 1, 2}, nil, nil)})
}

// TestConsoleOfSteps leads towers to each peg, and back.
func TestConsoleOfSteps(t *testing.T) {
	for n := range int64(6) {
		start := "state " + textOfState(state(3, tower(1, n)...)) + "\n"
		for goal := range int64(3) {
			for steps := range 38 {
				checkConsole(t, start+fmt.Sprint("goal ", goal, "\n")+strings.Repeat("step\n", steps)+"when")
			}
		}
	}
}

// TestConsoleOfDrawnLines has texts of some lines, with empty ones among them.
func TestConsoleOfDrawnLines(t *testing.T) {
	text, count := "", 0
	for line := range drawnLines(30000) {
		text += line + "\n" + strings.Repeat("\n", count%7/6)
		count++
		if count%29 == 0 {
			checkConsole(t, text)
			checkConsole(t, strings.TrimSuffix(text, "\n"))
			text = ""
		}
	}
}

// TestConsoleBeginsAnew has texts that change the desk, which no further call may find changed.
func TestConsoleBeginsAnew(t *testing.T) {
	for _, text := range []string{"step\nlift 2 0 1\ngoal 0", "word", "state 3:01\nheap", "reset"} {
		checkConsole(t, text)
		checkConsoleCase(t, consoleCase{"show\nlook\nsee", "3:000\n2\n012//\n", firstDesk()})
	}
}
