package tests

import (
	"fmt"
	"regexp"
	"slices"
	"strconv"
	"strings"
	"sync"
	"testing"

	"loop.example/g01321/impl"
)

// What chapter 11 returns is held against lines that are told by patterns, and executed by the searches,
// recursions and counts that the other chapters are held against; none of these calls the program.

// desk returns the desk with some discs, a goal and some Stacks.
func desk(discs []int64, goal int64, stacks ...[]int64) impl.Desk {
	return impl.Desk{State: state(3, discs...), Goal: goal, Heap: heap(stacks...)}
}

// firstDesk returns the new desk.
func firstDesk() impl.Desk {
	return desk([]int64{0, 0, 0}, 2, []int64{0, 1, 2}, nil, nil)
}

// sameDesk reports whether two desks are equal; a nil list and an empty one are.
func sameDesk(d, e impl.Desk) bool {
	return sameState(d.State, e.State) && d.Goal == e.Goal && sameHeap(d.Heap, e.Heap)
}

// isZeroDesk reports whether a desk is the zero value.
func isZeroDesk(d impl.Desk) bool {
	return isZeroState(d.State) && d.Goal == 0 && len(d.Heap.Stacks) == 0
}

// copyOfDesk returns a desk in its own memory.
func copyOfDesk(d impl.Desk) impl.Desk {
	return impl.Desk{State: state(d.State.Pegs, slices.Clone(d.State.Discs)...), Goal: d.Goal, Heap: copyOfHeap(d.Heap)}
}

// The texts of parts of desks and of lists.

func decimal(number int64) string {
	return strconv.FormatInt(number, 10)
}

func textOfState(x impl.State) string {
	text := decimal(x.Pegs) + ":"
	for i := range x.Discs {
		text += decimal(x.Discs[len(x.Discs)-1-i])
	}
	return text
}

func textOfMoves(moves []impl.Move) string {
	var texts []string
	for _, m := range moves {
		texts = append(texts, decimal(m.Disc)+":"+decimal(m.From)+">"+decimal(m.To))
	}
	return textOrNone(strings.Join(texts, ";"))
}

func textOfNumbers(numbers ...int64) string {
	return textOrNone(strings.Trim(fmt.Sprint(numbers), "[]"))
}

func textOfHeap(h impl.Heap) string {
	var stacks []string
	for _, stack := range h.Stacks {
		stacks = append(stacks, strings.ReplaceAll(strings.Trim(fmt.Sprint(stack), "[]"), " ", ""))
	}
	return strings.Join(stacks, "/")
}

func textOrNone(text string) string {
	if text == "" {
		return "none"
	}
	return text
}

// lineRule has the pattern of the words of a command, where N stands for a number and T for any bytes
// but blanks, and what the line does with a desk: it returns the output, or the empty string for a line
// that is wrong, and then leaves the desk as it was.
type lineRule struct {
	pattern string
	do      func(d *impl.Desk, words []string) string
}

// partRule has the pattern of the words of a command, and the part that the line puts onto a desk, if there
// is one.
type partRule[P any] struct {
	pattern string
	part    func(d impl.Desk, words []string) (P, bool)
}

// lineRules returns the rules by their commands.
var lineRules = sync.OnceValue(func() map[string]lineRule {
	rules := answerRules()
	addPartRules(rules, stateRules(), func(d *impl.Desk, x impl.State) string {
		d.State = x
		return textOfState(x)
	})
	addPartRules(rules, goalRules(), func(d *impl.Desk, goal int64) string {
		d.Goal = goal
		return decimal(goal)
	})
	addPartRules(rules, heapRules(), func(d *impl.Desk, h impl.Heap) string {
		d.Heap = h
		return textOfHeap(h)
	})
	addPartRules(rules, deskRules(), func(d *impl.Desk, all impl.Desk) string {
		*d = all
		return "ok"
	})
	return rules
})

// addPartRules adds rules of lines that put parts onto a desk; put does this, and returns the output.
func addPartRules[P any](rules map[string]lineRule, parts map[string]partRule[P], put func(d *impl.Desk, part P) string) {
	for command, rule := range parts {
		rules[command] = lineRule{rule.pattern, func(d *impl.Desk, words []string) string {
			part, ok := rule.part(*d, words)
			if !ok {
				return ""
			}
			return put(d, part)
		}}
	}
}

// linePatterns returns the patterns of whole lines by their commands.
var linePatterns = sync.OnceValue(func() map[string]*regexp.Regexp {
	words := strings.NewReplacer("N", "(0|[1-9][0-9]{0,8})", "T", "([^ ]*)")
	patterns := map[string]*regexp.Regexp{}
	for command, rule := range lineRules() {
		patterns[command] = regexp.MustCompile("^" + words.Replace(rule.pattern) + "$")
	}
	return patterns
})

// lineByReference returns the desk after a line, and the output.
func lineByReference(d impl.Desk, line string) (impl.Desk, string) {
	next := copyOfDesk(d)
	command, _, _ := strings.Cut(line, " ")
	rule, ok := lineRules()[command]
	if !ok {
		return next, "error"
	}
	words := linePatterns()[command].FindStringSubmatch(line)
	if words == nil {
		return next, "error"
	}
	if output := rule.do(&next, words[1:]); output != "" {
		return next, output
	}
	return next, "error"
}

// numberOf returns the number of a word that is one.
func numberOf(word string) int64 {
	number, _ := strconv.ParseInt(word, 10, 64)
	return number
}

// stateOfText returns the state of three pegs with a text, if it is that of one.
func stateOfText(text string) (impl.State, bool) {
	if len(text) > 10 || !strings.HasPrefix(text, "3:") || strings.Trim(text[2:], "012") != "" {
		return impl.State{}, false
	}
	x := state(3)
	for i := len(text) - 1; i >= 2; i-- {
		x.Discs = append(x.Discs, int64(text[i]-'0'))
	}
	return x, true
}

// checkLine fails if a line does not lead from a desk to the one of the reference, with its output. It
// returns the desk after the line.
func checkLine(t *testing.T, d impl.Desk, line string) impl.Desk {
	t.Helper()
	want, wantedOutput := lineByReference(d, line)
	next, output := impl.RunLine(d, line)
	if output != wantedOutput || !sameDesk(next, want) {
		t.Errorf("RunLine(%v, %.60q) = %v, %q, want %v, %q", d, line, next, output, want, wantedOutput)
	}
	return next
}
