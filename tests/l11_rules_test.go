package tests

import (
	"slices"
	"sync"

	"loop.example/g01321/impl"
)

// The lines of the console, without the program: what lineByReference does by the rules.

// stateRules has the lines that put a state onto a desk.
func stateRules() map[string]partRule[impl.State] {
	return map[string]partRule[impl.State]{
		"state": {"state T", func(_ impl.Desk, words []string) (impl.State, bool) { return stateOfText(words[0]) }},
		"move": {"move T", func(d impl.Desk, words []string) (impl.State, bool) {
			for _, m := range movesByStacks(d.State) {
				if words[0] == textOfMoves([]impl.Move{m}) {
					return moved(d.State, m), true
				}
			}
			return impl.State{}, false
		}},
		"step": {"step", func(d impl.Desk, _ []string) (impl.State, bool) {
			way := wayByRecursion(d.State.Discs, d.Goal)
			if len(way) == 0 {
				return impl.State{}, false
			}
			return moved(d.State, way[0]), true
		}},
		"time": {"time N", func(d impl.Desk, words []string) (impl.State, bool) {
			states := statesAtAllTimes()[len(d.State.Discs)]
			t := numberOf(words[0])
			if t >= int64(len(states)) {
				return impl.State{}, false
			}
			return states[t], true
		}},
		"word": {"word((?: N)*)", func(_ impl.Desk, words []string) (impl.State, bool) {
			x, ok := statesOfWords()[words[0]]
			return x, ok
		}},
		"regular": {"regular", func(d impl.Desk, _ []string) (impl.State, bool) {
			x := state(3, make([]int64, len(slices.Concat(d.Heap.Stacks...)))...)
			for peg, stack := range d.Heap.Stacks {
				for _, disc := range stack {
					x.Discs[disc] = int64(peg)
				}
			}
			return x, wrongPairsOf(d.Heap) == 0
		}},
	}
}

// goalRules has the line that puts a goal onto a desk.
func goalRules() map[string]partRule[int64] {
	return map[string]partRule[int64]{
		"goal": {"goal ([012])", func(_ impl.Desk, words []string) (int64, bool) { return numberOf(words[0]), true }},
	}
}

// deskRules has the line that makes a desk new.
func deskRules() map[string]partRule[impl.Desk] {
	return map[string]partRule[impl.Desk]{
		"reset": {"reset", func(impl.Desk, []string) (impl.Desk, bool) { return firstDesk(), true }},
	}
}

// heapRules has the lines that put a heap onto a desk.
func heapRules() map[string]partRule[impl.Heap] {
	return map[string]partRule[impl.Heap]{
		"heap": {"heap", func(d impl.Desk, _ []string) (impl.Heap, bool) {
			h := heap(nil, nil, nil)
			for _, disc := range downFrom(int64(len(d.State.Discs))) {
				peg := d.State.Discs[disc]
				h.Stacks[peg] = append(h.Stacks[peg], disc)
			}
			return h, len(d.State.Discs) <= impl.MaxHeap
		}},
		"lift": {"lift N N N", func(d impl.Desk, words []string) (impl.Heap, bool) {
			m := move(numberOf(words[0]), numberOf(words[1]), numberOf(words[2]))
			if !legalInHeap(d.Heap, m) {
				return impl.Heap{}, false
			}
			return movedInHeap(d.Heap, m), true
		}},
	}
}

// answerRules has the lines that leave a desk as it is.
func answerRules() map[string]lineRule {
	return map[string]lineRule{
		"show":     {"show", func(d *impl.Desk, _ []string) string { return textOfState(d.State) }},
		"look":     {"look", func(d *impl.Desk, _ []string) string { return textOfNumbers(d.Goal) }},
		"see":      {"see", func(d *impl.Desk, _ []string) string { return textOfHeap(d.Heap) }},
		"moves":    {"moves", func(d *impl.Desk, _ []string) string { return textOfMoves(movesByStacks(d.State)) }},
		"distance": {"distance", func(d *impl.Desk, _ []string) string { return textOfNumbers(int64(len(wayOf(*d)))) }},
		"way":      {"way", func(d *impl.Desk, _ []string) string { return textOfMoves(wayOf(*d)) }},
		"goals":    {"goals", func(d *impl.Desk, _ []string) string { return textOfNumbers(goalsByWay(*d)...) }},
		"between":  {"between T", func(d *impl.Desk, words []string) string { return pairText(*d, words[0], distanceOfWays) }},
		"ways":     {"ways T", func(d *impl.Desk, words []string) string { return pairText(*d, words[0], numberOfWays) }},
		"letters":  {"letters", func(d *impl.Desk, _ []string) string { return textOfNumbers(wordByReflections(d.State)...) }},
		"when":     {"when", func(d *impl.Desk, _ []string) string { return whenText(d.State) }},
		"far":      {"far", func(d *impl.Desk, _ []string) string { return textOfNumbers(heapDistances()[d.Goal][heapKey(d.Heap)]) }},
		"wrong":    {"wrong", func(d *impl.Desk, _ []string) string { return textOfNumbers(wrongPairsOf(d.Heap)) }},
		"presumed": {"presumed N N", func(_ *impl.Desk, words []string) string { return presumedText(words, numberOfPresumed) }},
		"parts":    {"parts N N", func(_ *impl.Desk, words []string) string { return presumedText(words, partsOfPresumed) }},
		"text":     {"text N N", func(_ *impl.Desk, words []string) string { return lettersText(numberOf(words[0]), numberOf(words[1])) }},
		"square":   {"square T", func(_ *impl.Desk, words []string) string { return squareText(words[0]) }},
	}
}

// wayOf returns the way from the state of a desk to its goal.
func wayOf(d impl.Desk) []impl.Move {
	return wayByRecursion(d.State.Discs, d.Goal)
}

// goalsByWay returns the goals of the state of a desk: each disc is on its own when a greater one first
// moves on the way, or at the end if none does.
func goalsByWay(d impl.Desk) []int64 {
	goals, greatest := slices.Clone(d.State.Discs), int64(-1)
	for _, m := range wayOf(d) {
		greatest = max(greatest, m.Disc)
		if m.Disc == greatest {
			goals[m.Disc] = m.To
		}
	}
	return goals
}

// distanceOfWays returns the distance of two different states, from the ways with one move and with two.
func distanceOfWays(one, two []impl.Move) int64 {
	return int64(min(len(one), len(two)))
}

// numberOfWays returns the number of shortest ways, likewise.
func numberOfWays(one, two []impl.Move) int64 {
	if len(one) == len(two) {
		return 2
	}
	return 1
}

// pairText returns the output for the state of a desk and one with a text.
func pairText(d impl.Desk, text string, number func(one, two []impl.Move) int64) string {
	y, ok := stateOfText(text)
	if !ok || len(y.Discs) != len(d.State.Discs) {
		return ""
	}
	if sameState(d.State, y) {
		// No moves are one way of no moves.
		return textOfNumbers(number(nil, []impl.Move{{}}))
	}
	return textOfNumbers(number(waysByRecursion(d.State, y)))
}

// whenText returns the output for the time of a state.
func whenText(x impl.State) string {
	states := statesAtAllTimes()[len(x.Discs)]
	t := slices.IndexFunc(states, func(y impl.State) bool { return sameState(x, y) })
	if t < 0 {
		return ""
	}
	return textOfNumbers(int64(t))
}

// numberOfPresumed returns a presumed number, as a list.
func numberOfPresumed(numbers map[pegsAndDiscs]int64, p, n int64) []int64 {
	return []int64{numbers[pegsAndDiscs{p, n}]}
}

// presumedText returns the output for a list that belongs to numbers of pegs and of discs.
func presumedText(words []string, list func(numbers map[pegsAndDiscs]int64, p, n int64) []int64) string {
	p, n := numberOf(words[0]), numberOf(words[1])
	if _, ok := allPresumed()[pegsAndDiscs{p, n}]; !ok {
		return ""
	}
	return textOfNumbers(list(allPresumed(), p, n)...)
}

// lettersText returns the output for the letters of n moves from the one at t on.
func lettersText(t, n int64) string {
	if t < 1 || n > impl.MaxWords {
		return ""
	}
	return textOrNone(lettersOfTimes(t, n))
}

// squareText returns the output for the first square of a text.
func squareText(text string) string {
	if len(text) > impl.MaxWords {
		return ""
	}
	s, ok := firstSquareOf(text)
	if !ok {
		return ""
	}
	return textOfNumbers(s.begin, s.length)
}

// statesAtAllTimes returns the states at all times by their numbers of discs.
var statesAtAllTimes = sync.OnceValue(func() [][]impl.State {
	var states [][]impl.State
	for n := range int64(impl.MaxDiscs + 1) {
		states = append(states, statesOfTimes(n))
	}
	return states
})

// statesOfWords returns all states of three pegs by their words, as texts that have a blank before each
// letter.
var statesOfWords = sync.OnceValue(func() map[string]impl.State {
	states := map[string]impl.State{}
	for x := range threePegStates() {
		word := ""
		for _, letter := range wordByReflections(x) {
			word += " " + decimal(letter)
		}
		states[word] = x
	}
	return states
})

// heapDistances returns, for each peg, the distances of all heaps by their keys.
var heapDistances = sync.OnceValue(func() [3]map[string]int64 {
	var distances [3]map[string]int64
	for all, goal := range heapGoals() {
		if distances[goal.peg] == nil {
			distances[goal.peg] = map[string]int64{}
		}
		for place, h := range all.heaps {
			distances[goal.peg][heapKey(h)] = goal.distances[place]
		}
	}
	return distances
})

var allPresumed = sync.OnceValue(presumedNumbers)
