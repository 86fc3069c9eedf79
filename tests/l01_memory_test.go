package tests

import (
	"slices"
	"testing"

	"loop.example/g01321/impl"
)

// TestStatesNotModified calls each function of chapter 1 that takes a slice, with spare capacity
// behind it.
func TestStatesNotModified(t *testing.T) {
	for _, discs := range [][]int64{nil, {0}, {1, 0, 2}, {2, 0, 0, 1, 0, 2, 2, 0}} {
		x := impl.State{Pegs: 3, Discs: roomy(discs...)}
		y := impl.State{Pegs: 3, Discs: roomy(discs...)}
		list := roomy(1, 2, 0)
		calls := map[string]func(){
			"IsState":        func() { impl.IsState(x) },
			"IsPerfectState": func() { impl.IsPerfectState(x) },
			"RankOf":         func() { impl.RankOf(x) },
			"TopOf":          func() { impl.TopOf(x, 0) },
			"StacksOf":       func() { impl.StacksOf(x) },
			"IsLegal":        func() { impl.IsLegal(x, move(0, 0, 1)) },
			"LegalMoves":     func() { impl.LegalMoves(x) },
			"AfterMove":      func() { eachMove(x, func(m impl.Move) { impl.AfterMove(x, m) }) },
			"NeighboursOf":   func() { impl.NeighboursOf(x) },
			"RunMoves":       func() { eachMove(x, func(m impl.Move) { impl.RunMoves(x, []impl.Move{m}) }) },
			"StatesOfRun":    func() { eachMove(x, func(m impl.Move) { impl.StatesOfRun(x, []impl.Move{m}) }) },
			"MoveBetween":    func() { impl.MoveBetween(x, y) },
			"RenamePegs":     func() { impl.RenamePegs(x, list) },
			"StateText":      func() { impl.StateText(x) },
		}
		for name, call := range calls {
			call()
			checkRoomy(t, name, x.Discs, discs...)
			checkRoomy(t, name, y.Discs, discs...)
			checkRoomy(t, name, list, 1, 2, 0)
			if x.Pegs != 3 || y.Pegs != 3 {
				t.Errorf("%s changed the number of pegs", name)
			}
		}
	}
}

// eachMove calls a function for each legal move of a state.
func eachMove(x impl.State, call func(m impl.Move)) {
	for _, m := range movesByStacks(x) {
		call(m)
	}
}

func TestMovesNotModified(t *testing.T) {
	run := []impl.Move{move(0, 0, 1), move(1, 0, 2), move(0, 1, 2)}
	spare := move(sentinel, sentinel, sentinel)
	for _, end := range []int{0, 1, 3} {
		moves := append(slices.Clone(run), spare, spare)[:end]
		impl.RunMoves(state(3, 0, 0), moves)
		impl.StatesOfRun(state(3, 0, 0), moves)
		all := moves[:len(run)+2]
		if !slices.Equal(all, append(slices.Clone(run), spare, spare)) {
			t.Errorf("the moves and the spare capacity became %v", all)
		}
	}
}

// TestResultsShareNoMemoryWithArguments overwrites results, with their spare capacity, and looks at
// the arguments.
func TestResultsShareNoMemoryWithArguments(t *testing.T) {
	for _, discs := range [][]int64{nil, {0}, {1, 0, 2}, {2, 0, 0, 1, 0, 2, 2, 0}} {
		x := impl.State{Pegs: 3, Discs: roomy(discs...)}
		list := roomy(0, 1, 2)
		results := map[string]func() [][]int64{
			"StacksOf":     func() [][]int64 { stacks, _ := impl.StacksOf(x); return stacks },
			"NeighboursOf": func() [][]int64 { states, _ := impl.NeighboursOf(x); return discLists(states) },
			"RunMoves":     func() [][]int64 { y, _ := impl.RunMoves(x, nil); return [][]int64{y.Discs} },
			"StatesOfRun":  func() [][]int64 { states, _ := impl.StatesOfRun(x, nil); return discLists(states) },
			"RenamePegs":   func() [][]int64 { y, _ := impl.RenamePegs(x, list); return [][]int64{y.Discs} },
			"AfterMove": func() [][]int64 {
				var lists [][]int64
				eachMove(x, func(m impl.Move) { y, _ := impl.AfterMove(x, m); lists = append(lists, y.Discs) })
				return lists
			},
		}
		for name, call := range results {
			for _, result := range call() {
				spoil(result)
			}
			checkRoomy(t, name, x.Discs, discs...)
			checkRoomy(t, name, list, 0, 1, 2)
		}
	}
}

// discLists returns the lists of discs of states, in their own memory.
func discLists(states []impl.State) [][]int64 {
	var lists [][]int64
	for _, x := range states {
		lists = append(lists, x.Discs)
	}
	return lists
}

// TestResultsShareNoMemoryWithEachOther overwrites each slice of a result, with its spare capacity,
// and looks at the others.
func TestResultsShareNoMemoryWithEachOther(t *testing.T) {
	x := state(3, 0, 0, 1, 2, 2)
	run := []impl.Move{move(0, 0, 1), move(0, 1, 2), move(1, 0, 1), move(0, 2, 0)}
	results := map[string]func() [][]int64{
		"StacksOf":          func() [][]int64 { stacks, _ := impl.StacksOf(x); return stacks },
		"StacksOf no discs": func() [][]int64 { stacks, _ := impl.StacksOf(state(5)); return stacks },
		"NeighboursOf":      func() [][]int64 { states, _ := impl.NeighboursOf(x); return discLists(states) },
		"StatesOfRun":       func() [][]int64 { states, _ := impl.StatesOfRun(x, run); return discLists(states) },
		"StatesOfRun, no discs": func() [][]int64 {
			states, _ := impl.StatesOfRun(state(4), nil)
			return discLists(states)
		},
	}
	for name, call := range results {
		want := call()
		for i := range want {
			got := call()
			spoil(got[i])
			for j := range got {
				if j != i && !slices.Equal(got[j], want[j]) {
					t.Errorf("%s: the slices %d and %d share memory", name, i, j)
				}
			}
		}
	}
}

// TestCallsKeepNothing overwrites a result and calls once more.
func TestCallsKeepNothing(t *testing.T) {
	x := state(3, 0, 0, 1)
	calls := map[string]func() [][]int64{
		"PerfectState": func() [][]int64 { y, _ := impl.PerfectState(3, 4, 1); return [][]int64{y.Discs} },
		"StateOfRank":  func() [][]int64 { y, _ := impl.StateOfRank(3, 4, 50); return [][]int64{y.Discs} },
		"ParseState":   func() [][]int64 { y, _ := impl.ParseState("4:0123"); return [][]int64{y.Discs} },
		"StacksOf":     func() [][]int64 { stacks, _ := impl.StacksOf(x); return stacks },
		"AfterMove":    func() [][]int64 { y, _ := impl.AfterMove(x, move(0, 0, 2)); return [][]int64{y.Discs} },
		"NeighboursOf": func() [][]int64 { states, _ := impl.NeighboursOf(x); return discLists(states) },
		"StatesOfRun":  func() [][]int64 { states, _ := impl.StatesOfRun(x, nil); return discLists(states) },
		"RunMoves":     func() [][]int64 { y, _ := impl.RunMoves(x, nil); return [][]int64{y.Discs} },
		"RenamePegs":   func() [][]int64 { y, _ := impl.RenamePegs(x, []int64{2, 1, 0}); return [][]int64{y.Discs} },
		"LegalMoves":   func() [][]int64 { return [][]int64{firstDiscs(x)} },
	}
	for name, call := range calls {
		first := call()
		want := make([][]int64, len(first))
		for i, list := range first {
			want[i] = slices.Clone(list)
			spoil(list)
		}
		if again := call(); !sameLists(again, want) {
			t.Errorf("%s: %v, and once more %v", name, want, again)
		}
	}
}

// firstDiscs returns the discs of the legal moves, which it overwrites then.
func firstDiscs(x impl.State) []int64 {
	moves, _ := impl.LegalMoves(x)
	var discs []int64
	for i := range moves {
		discs = append(discs, moves[i].Disc)
		moves[i] = move(-99, -99, -99)
	}
	return discs
}
