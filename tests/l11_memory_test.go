package tests

import (
	"slices"
	"testing"

	"loop.example/g01321/impl"
)

// memoryLines returns lines of each command, right ones and wrong ones.
func memoryLines() []string {
	return slices.Concat(plainLines(), linesWithWords(), []string{
		"word 0 1 2", "word 2", "state 3:", "state 3:00000000", "lift 0 1 2", "lift 2 1 0", "lift 0 2 0", "move 0:1>2", "move 0:2>0", "goal 3", "time 0",
		"state 4:00", "fly", "show ", "", "word 3",
	})
}

// roomyDesk returns a desk with spare capacity behind all its lists.
func roomyDesk(d impl.Desk) impl.Desk {
	return impl.Desk{State: state(d.State.Pegs, roomy(d.State.Discs...)...), Goal: d.Goal, Heap: roomyHeap(d.Heap)}
}

// checkRoomyDesk fails if a desk of roomyDesk, or the spare capacity behind its lists, is no longer as it
// was.
func checkRoomyDesk(t *testing.T, what string, d, want impl.Desk) {
	t.Helper()
	checkRoomy(t, what, d.State.Discs, want.State.Discs...)
	checkRoomyHeap(t, what, d.Heap, want.Heap)
	if d.State.Pegs != want.State.Pegs || d.Goal != want.Goal {
		t.Errorf("%s: the argument became %v, was %v", what, d, want)
	}
}

// listsOfDesk returns all lists of numbers of a desk.
func listsOfDesk(d impl.Desk) [][]int64 {
	return append([][]int64{d.State.Discs}, d.Heap.Stacks...)
}

// spoilDesk overwrites all lists of a desk, with their spare capacity.
func spoilDesk(d impl.Desk) {
	for _, list := range listsOfDesk(d) {
		spoil(list)
	}
	all := d.Heap.Stacks[:cap(d.Heap.Stacks)]
	for peg := range all {
		all[peg] = []int64{-99}
	}
}

func TestDesksNotModified(t *testing.T) {
	desks := someDesks()
	for _, d := range noDesks() {
		desks = append(desks, d)
	}
	for _, want := range desks {
		d := roomyDesk(want)
		impl.IsDesk(d)
		checkRoomyDesk(t, "IsDesk", d, want)
		for _, line := range memoryLines() {
			impl.RunLine(d, line)
			checkRoomyDesk(t, "RunLine with "+line, d, want)
		}
	}
}

// TestDesksNotKept overwrites the desk that a line works on, and looks at the one after it, and the other
// way round.
func TestDesksNotKept(t *testing.T) {
	for _, want := range someDesks() {
		for _, line := range memoryLines() {
			d := roomyDesk(want)
			next, _ := impl.RunLine(d, line)
			clean := copyOfDesk(next)
			spoilDesk(d)
			if !sameDesk(next, clean) {
				t.Errorf("%q of %v: the desk after it became %v, was %v", line, want, next, clean)
			}
			d = roomyDesk(want)
			next, _ = impl.RunLine(d, line)
			spoilDesk(next)
			checkRoomyDesk(t, "a result of RunLine with "+line, d, want)
		}
	}
}

// checkOwnDesk overwrites each list of a desk that a call returns, with its spare capacity, and looks at
// the other ones, at what another call returned, and at a further one.
func checkOwnDesk(t *testing.T, what string, call func() impl.Desk) {
	t.Helper()
	other, want := call(), copyOfDesk(call())
	for i := range listsOfDesk(want) {
		d := call()
		spoil(listsOfDesk(d)[i])
		for j, list := range listsOfDesk(d) {
			if j != i && !slices.Equal(list, listsOfDesk(want)[j]) {
				t.Errorf("%s: the lists %d and %d share memory", what, i, j)
			}
		}
	}
	spoilDesk(call())
	if again := call(); !sameDesk(other, want) || !sameDesk(again, want) {
		t.Errorf("%s: %v, then %v and %v", what, want, other, again)
	}
}

func TestDesksShareNoMemory(t *testing.T) {
	checkOwnDesk(t, "NewDesk", impl.NewDesk)
	for _, d := range someDesks() {
		for _, line := range memoryLines() {
			checkOwnDesk(t, "RunLine with "+line, func() impl.Desk { next, _ := impl.RunLine(d, line); return next })
		}
	}
	for _, text := range []string{"", "\n", "show", "heap", "heap\nregular\nheap", "lift 2 0 1", "step\nlift 2 0 1\nfly", "word\nheap", "goal 0\nreset"} {
		checkOwnDesk(t, "DeskAfter of "+text, func() impl.Desk { d, _ := impl.DeskAfter(text); return d })
	}
}

// TestStacksInOneList has a desk whose lists are parts of one list: what is put on one Stack would be in
// the next one.
func TestStacksInOneList(t *testing.T) {
	list := []int64{0, 1, 2, 0, 1, 2, sentinel, sentinel}
	before := slices.Clone(list)
	d := desk(list[:3], 1, list[3:4], list[4:5], list[5:6])
	for _, line := range append(slices.Collect(liftLines()), memoryLines()...) {
		checkLine(t, d, line)
		if !slices.Equal(list, before) {
			t.Fatalf("%q: the list became %v, was %v", line, list, before)
		}
	}
}

// TestConsoleIsTheSameAtEveryRun has consoles that run one after the other, and at the same time.
func TestConsoleIsTheSameAtEveryRun(t *testing.T) {
	text := ""
	for line := range drawnLines(40) {
		text += line + "\n"
	}
	if _, _, ok := consoleByReference(text); !ok {
		t.Fatal("the text is too long")
	}
	checkSameAtEveryRun(t, "Console", func() string { return impl.Console(text) })
}
