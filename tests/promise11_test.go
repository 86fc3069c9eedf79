package tests

import (
	"iter"
	"slices"
	"strings"
	"testing"

	"loop.example/g01321/impl"
)

// Promise 11, with the guarantee of chapter 11.

// linesOfPromise returns all lines that are tried on desks.
func linesOfPromise() []string {
	return slices.Concat(memoryLines(), slices.Collect(liftLines()), slices.Collect(drawnLines(300)))
}

// desksOfPromise returns desks: some that were made, and those to which lines led.
func desksOfPromise() []impl.Desk {
	desks := append(someDesks(), impl.NewDesk())
	d, i := impl.NewDesk(), 0
	for line := range drawnLines(6000) {
		d, _ = impl.RunLine(d, line)
		if i++; i%40 == 0 {
			desks = append(desks, d)
		}
	}
	return desks
}

// promiseRun has a desk, a line, and what RunLine returned of them.
type promiseRun struct {
	d      impl.Desk
	line   string
	next   impl.Desk
	output string
}

// command returns the first word of the line.
func (r promiseRun) command() string {
	command, _, _ := strings.Cut(r.line, " ")
	return command
}

// promiseRuns ranges over all lines on all desks.
func promiseRuns() iter.Seq[promiseRun] {
	return func(yield func(promiseRun) bool) {
		for _, d := range desksOfPromise() {
			for _, line := range linesOfPromise() {
				next, output := impl.RunLine(d, line)
				if !yield(promiseRun{d, line, next, output}) {
					return
				}
			}
		}
	}
}

// TestPromise11LinesLeadFromDesksToDesks has right lines and wrong ones.
func TestPromise11LinesLeadFromDesksToDesks(t *testing.T) {
	for r := range promiseRuns() {
		if !impl.IsDesk(r.d) || !impl.IsDesk(r.next) || r.output == "" {
			t.Errorf("%q leads from %v to %v; these are desks: %v, %v; the output is %q", r.line, r.d, r.next, impl.IsDesk(r.d), impl.IsDesk(r.next), r.output)
		}
	}
}

// TestPromise11WrongLinesChangeNothing finds enough wrong lines, and right ones.
func TestPromise11WrongLinesChangeNothing(t *testing.T) {
	wrong, right := 0, 0
	for r := range promiseRuns() {
		if r.output != "error" {
			right++
			continue
		}
		wrong++
		if !sameDesk(r.next, r.d) {
			t.Errorf("the wrong line %q leads from %v to %v", r.line, r.d, r.next)
		}
	}
	if wrong < 1000 || right < 1000 {
		t.Errorf("only %d wrong lines and %d right ones", wrong, right)
	}
}

// TestPromise11RightLinesChangeOnePart has the part that each command changes; those that are not named
// change none.
func TestPromise11RightLinesChangeOnePart(t *testing.T) {
	part := map[string]string{
		"state": "X", "move": "X", "step": "X", "time": "X", "word": "X", "regular": "X", "goal": "A", "heap": "H", "lift": "H",
	}
	for r := range promiseRuns() {
		if r.output == "ok" {
			if r.line != "reset" || !sameDesk(r.next, impl.NewDesk()) {
				t.Errorf("%q leads to %v", r.line, r.next)
			}
			continue
		}
		changes := part[r.command()]
		if changes != "X" && !sameState(r.next.State, r.d.State) || changes != "A" && r.next.Goal != r.d.Goal || changes != "H" && !sameHeap(r.next.Heap, r.d.Heap) {
			t.Errorf("%q leads from %v to %v", r.line, r.d, r.next)
		}
	}
}

// TestPromise11LinesThatChangeAPartPutItOut has the outputs of show, look and see behind them.
func TestPromise11LinesThatChangeAPartPutItOut(t *testing.T) {
	shownBy := map[string]string{
		"state": "show", "move": "show", "step": "show", "time": "show", "word": "show", "regular": "show",
		"goal": "look", "heap": "see", "lift": "see",
	}
	for r := range promiseRuns() {
		shows := shownBy[r.command()]
		if shows == "" || r.output == "error" {
			continue
		}
		if same, shown := impl.RunLine(r.next, shows); shown != r.output || !sameDesk(same, r.next) {
			t.Errorf("%q has the output %q, and then %q has %q", r.line, r.output, shows, shown)
		}
	}
}

// TestPromise11TheConsoleJoinsOutputs has texts of 1 to MaxLines lines, each one without its last newline, too.
func TestPromise11TheConsoleJoinsOutputs(t *testing.T) {
	lines := slices.Collect(drawnLines(2000))
	for i := 0; i < len(lines); i += impl.MaxLines {
		d, text, outputs := impl.NewDesk(), "", ""
		for _, line := range lines[i : i+impl.MaxLines] {
			next, output := impl.RunLine(d, line)
			d = next
			text += line + "\n"
			outputs += output + "\n"
			for _, same := range []string{text, strings.TrimSuffix(text, "\n")} {
				if found := impl.Console(same); found != outputs {
					t.Fatalf("Console(%q) = %q, the lines have the outputs %q", same, found, outputs)
				}
				if last, ok := impl.DeskAfter(same); !ok || !sameDesk(last, d) {
					t.Fatalf("DeskAfter(%q) = %v, %v, the lines lead to %v", same, last, ok, d)
				}
			}
		}
	}
}

// TestPromise11DesksAfterTextsLeadOn parts texts in two: the lines of the second part lead on from the desk
// after the first one.
func TestPromise11DesksAfterTextsLeadOn(t *testing.T) {
	lines := slices.Collect(drawnLines(1200))
	for i := 0; i < len(lines); i += 30 {
		first, second := lines[i:i+12], lines[i+12:i+30]
		d, ok := impl.DeskAfter(strings.Join(first, "\n"))
		if !ok {
			t.Fatalf("DeskAfter refuses %q", first)
		}
		outputs := impl.Console(strings.Join(first, "\n"))
		for _, line := range second {
			next, output := impl.RunLine(d, line)
			d = next
			outputs += output + "\n"
		}
		all := strings.Join(lines[i:i+30], "\n")
		if found := impl.Console(all); found != outputs {
			t.Errorf("Console(%q) = %q, in two parts %q", all, found, outputs)
		}
		if last, ok := impl.DeskAfter(all); !ok || !sameDesk(last, d) {
			t.Errorf("DeskAfter(%q) = %v, %v, in two parts %v", all, last, ok, d)
		}
	}
}
