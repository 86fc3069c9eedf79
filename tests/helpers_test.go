package tests

import (
	"iter"
	"math"
	"runtime"
	"slices"
	"sync"
	"testing"
	"time"

	"loop.example/g01321/impl"
)

// state returns the state of k pegs with the pegs of the discs from 0 on.
func state(k int64, discs ...int64) impl.State {
	return impl.State{Pegs: k, Discs: discs}
}

// move returns the move of a disc.
func move(disc, from, to int64) impl.Move {
	return impl.Move{Disc: disc, From: from, To: to}
}

// sameState reports whether two states are equal; a nil list and an empty one are.
func sameState(x, y impl.State) bool {
	return x.Pegs == y.Pegs && slices.Equal(x.Discs, y.Discs)
}

func sameStates(x, y []impl.State) bool {
	return slices.EqualFunc(x, y, sameState)
}

func sameLists(x, y [][]int64) bool {
	return slices.EqualFunc(x, y, slices.Equal[[]int64])
}

func isZeroState(x impl.State) bool {
	return x.Pegs == 0 && len(x.Discs) == 0
}

// greatestTowers has the greatest number of discs for each number of pegs: 3^8 = 6561, 4^6 = 4096
// and 5^5 = 3125 states, where one disc more is too much.
func greatestTowers() map[int64]int64 {
	return map[int64]int64{3: 8, 4: 6, 5: 5}
}

// shapes ranges over all numbers of pegs and discs for which there are states.
func shapes() iter.Seq2[int64, int64] {
	return func(yield func(int64, int64) bool) {
		for k := int64(3); k <= 5; k++ {
			for n := range greatestTowers()[k] + 1 {
				if !yield(k, n) {
					return
				}
			}
		}
	}
}

// statesOf ranges over all states of n discs on k pegs by their ranks, counting up without the
// program.
func statesOf(k, n int64) iter.Seq2[int64, impl.State] {
	return func(yield func(int64, impl.State) bool) {
		discs := make([]int64, n)
		for rank := int64(0); ; rank++ {
			if !yield(rank, state(k, slices.Clone(discs)...)) {
				return
			}
			d := 0
			for d < len(discs) && discs[d] == k-1 {
				discs[d] = 0
				d++
			}
			if d == len(discs) {
				return
			}
			discs[d]++
		}
	}
}

// allStates ranges over all states.
func allStates() iter.Seq2[int64, impl.State] {
	return func(yield func(int64, impl.State) bool) {
		for k, n := range shapes() {
			for rank, x := range statesOf(k, n) {
				if !yield(rank, x) {
					return
				}
			}
		}
	}
}

// noStates returns structs that are no states, each for a reason of its own.
func noStates() map[string]impl.State {
	return map[string]impl.State{
		"zero value":              {},
		"two pegs":                state(2, 0, 1),
		"no pegs, a disc":         state(0, 0),
		"six pegs":                state(6, 0, 1),
		"negative pegs":           state(-3, 0, 1),
		"three pegs beyond int8":  state(259, 0),
		"least number of pegs":    state(math.MinInt64),
		"greatest number of pegs": state(math.MaxInt64, 0, 1),
		"nine discs":              state(3, 0, 0, 0, 0, 0, 0, 0, 0, 0),
		"seven discs on four":     state(4, 0, 0, 0, 0, 0, 0, 0),
		"six discs on five":       state(5, 0, 0, 0, 0, 0, 0),
		"64 discs on four":        state(4, make([]int64, 64)...),
		"peg 3 of three":          state(3, 0, 3),
		"peg 4 of four":           state(4, 4),
		"peg 5 of five":           state(5, 0, 0, 5),
		"negative peg":            state(3, 0, -1, 0),
		"least peg":               state(3, math.MinInt64),
		"greatest peg":            state(3, math.MaxInt64),
	}
}

// oddNumbers returns numbers that are in no range told by the document, but for that of times.
func oddNumbers() []int64 {
	return []int64{-1, -2, math.MinInt64, math.MaxInt64, math.MinInt64 + 1, 1 << 32, -(1 << 32)}
}

// sentinel fills the spare capacity behind the lists of roomy.
const sentinel = 77

// roomy returns a list with spare capacity that is filled with sentinels.
func roomy(list ...int64) []int64 {
	all := make([]int64, len(list)+8)
	copy(all, list)
	for i := len(list); i < len(all); i++ {
		all[i] = sentinel
	}
	return all[:len(list)]
}

// checkRoomy fails if a list of roomy, or the spare capacity behind it, is no longer as it was.
func checkRoomy(t *testing.T, what string, list []int64, want ...int64) {
	t.Helper()
	if !slices.Equal(list, want) {
		t.Errorf("%s: the argument became %v, was %v", what, list, want)
	}
	for _, x := range list[len(list):cap(list)] {
		if x != sentinel {
			t.Errorf("%s: the spare capacity behind the argument was changed", what)
			return
		}
	}
}

// spoil overwrites a list and its spare capacity: whatever shares memory with it changes.
func spoil(list []int64) {
	list = list[:cap(list)]
	for i := range list {
		list[i] = -99
	}
}

// checkOwnList overwrites the list that a call returns, with its spare capacity, and fails if what
// another call returned, or a further one returns, is changed by this.
func checkOwnList(t *testing.T, what string, call func() []int64) {
	t.Helper()
	list, other := call(), call()
	want := slices.Clone(list)
	spoil(list)
	if again := call(); !slices.Equal(other, want) || !slices.Equal(again, want) {
		t.Errorf("%s: %v, then %v and %v", what, want, other, again)
	}
}

// checkOwnMoves overwrites the moves that a call returns, with their spare capacity, and fails if what
// another call returned, or a further one returns, is changed by this.
func checkOwnMoves(t *testing.T, what string, call func() []impl.Move) {
	t.Helper()
	moves, other := call(), call()
	want := slices.Clone(moves)
	all := moves[:cap(moves)]
	for i := range all {
		all[i] = move(-99, -99, -99)
	}
	if again := call(); !slices.Equal(other, want) || !slices.Equal(again, want) {
		t.Errorf("%s: %v, then %v and %v", what, want, other, again)
	}
}

// wantCode fails if a code is not the wanted one.
func wantCode(t *testing.T, what string, code, want int64) {
	t.Helper()
	if code != want {
		t.Errorf("%s: code %d, want %d", what, code, want)
	}
}

// checkGoroutinesEnd fails if goroutines of calls still wait behind them: those of searches that ended
// may take a moment to vanish.
func checkGoroutinesEnd(t *testing.T, calls func()) {
	t.Helper()
	before := runtime.NumGoroutine()
	calls()
	for range 200 {
		if runtime.NumGoroutine() <= before {
			return
		}
		time.Sleep(10 * time.Millisecond)
	}
	t.Errorf("%d goroutines before, %d behind the calls", before, runtime.NumGoroutine())
}

// checkSameAtEveryRun fails if calls, some of them at the same time, do not all return the same, on one
// processor and on several ones.
func checkSameAtEveryRun[T comparable](t *testing.T, what string, call func() T) {
	t.Helper()
	defer runtime.GOMAXPROCS(runtime.GOMAXPROCS(0))
	want := call()
	for _, atOnce := range []int{1, 2, 8} {
		runtime.GOMAXPROCS(atOnce)
		found := make([]T, 12)
		var calls sync.WaitGroup
		for i := range found {
			calls.Go(func() { found[i] = call() })
		}
		calls.Wait()
		for range 4 {
			found = append(found, call())
		}
		for _, result := range found {
			if result != want {
				t.Errorf("%s: %v, then %v", what, want, result)
			}
		}
	}
}
