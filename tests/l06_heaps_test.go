package tests

import (
	"fmt"
	"slices"
	"testing"

	"loop.example/g01321/impl"
)

func TestIsHeap(t *testing.T) {
	if impl.MaxHeap != 4 {
		t.Errorf("MaxHeap = %d", impl.MaxHeap)
	}
	for _, h := range allHeaps() {
		if !impl.IsHeap(h) {
			t.Errorf("IsHeap(%v) = false", h)
		}
	}
	if !impl.IsHeap(heap(nil, []int64{}, nil)) {
		t.Errorf("IsHeap of the heap of no discs = false")
	}
	for why, h := range noHeaps() {
		if impl.IsHeap(h) {
			t.Errorf("IsHeap of %s = true", why)
		}
	}
}

// TestIsHeapOfShortLists has all lists of at most five numbers in -1..4, parted in each way.
func TestIsHeapOfShortLists(t *testing.T) {
	for n := range int64(6) {
		for _, list := range wordsOf(6, n) {
			for i := range list {
				list[i]--
			}
			sorted := slices.Sorted(slices.Values(list))
			want := n <= 4 && slices.Equal(sorted, upTo(n))
			for h := range partsOf(list) {
				if impl.IsHeap(h) != want {
					t.Fatalf("IsHeap(%v) = %v", h, !want)
				}
			}
		}
	}
}

// TestIsHeapLooksAtEachDisc has heaps with one disc changed.
func TestIsHeapLooksAtEachDisc(t *testing.T) {
	for n, h := range allHeaps() {
		for peg, stack := range h.Stacks {
			for place, disc := range stack {
				for _, odd := range append(oddNumbers(), n, n+1, 4, 5, (disc+1)%max(n, 2), 256+disc, 1<<32+disc) {
					changed := copyOfHeap(h)
					changed.Stacks[peg][place] = odd
					if impl.IsHeap(changed) {
						t.Fatalf("IsHeap(%v) = true", changed)
					}
				}
			}
		}
	}
}

// TestNumbersOfStacks has regular heaps with Stacks taken away and added.
func TestNumbersOfStacks(t *testing.T) {
	for n := range int64(impl.MaxHeap + 1) {
		for count := range 8 {
			for place := range count {
				h := heap(make([][]int64, count)...)
				h.Stacks[place] = downFrom(n)
				if impl.IsHeap(h) != (count == 3) {
					t.Errorf("IsHeap(%v) = %v", h, count != 3)
				}
			}
		}
	}
}

func TestHeapOfByHand(t *testing.T) {
	cases := []struct {
		discs []int64
		want  impl.Heap
	}{
		{nil, heap(nil, nil, nil)},
		{[]int64{}, heap(nil, nil, nil)},
		{[]int64{0}, heap([]int64{0}, nil, nil)},
		{[]int64{2}, heap(nil, nil, []int64{0})},
		{[]int64{0, 0}, heap([]int64{1, 0}, nil, nil)},
		{[]int64{1, 0}, heap([]int64{1}, []int64{0}, nil)},
		{[]int64{2, 1, 2}, heap(nil, []int64{1}, []int64{2, 0})},
		{[]int64{1, 1, 1, 1}, heap(nil, []int64{3, 2, 1, 0}, nil)},
		{[]int64{0, 1, 2, 0}, heap([]int64{3, 0}, []int64{1}, []int64{2})},
		{[]int64{2, 2, 2, 2}, heap(nil, nil, []int64{3, 2, 1, 0})},
	}
	for _, c := range cases {
		h, code := impl.HeapOf(state(3, c.discs...))
		wantHeap(t, fmt.Sprintf("HeapOf(%v)", c.discs), h, c.want, code)
		if x, code := impl.StateOfHeap(c.want); !sameState(x, state(3, c.discs...)) || code != impl.ErrNone {
			t.Errorf("StateOfHeap(%v) = %v, %d, want %v", c.want, x, code, c.discs)
		}
	}
}

// regularHeaps returns the regular heaps of n discs with their states, disc by disc from the greatest
// one down.
func regularHeaps(n int64) map[string]impl.State {
	found := map[string]impl.State{}
	for _, x := range statesOf(3, n) {
		h := heap(nil, nil, nil)
		for d := n - 1; d >= 0; d-- {
			peg := x.Discs[d]
			h.Stacks[peg] = append(h.Stacks[peg], d)
		}
		found[heapKey(h)] = x
	}
	return found
}

// TestStatesAndHeaps has all states of at most four discs, and all heaps: just those of the states
// are regular.
func TestStatesAndHeaps(t *testing.T) {
	for n := range int64(impl.MaxHeap + 1) {
		regular := regularHeaps(n)
		for key, x := range regular {
			if h, code := impl.HeapOf(x); heapKey(h) != key || code != impl.ErrNone {
				t.Errorf("HeapOf(%v) = %v, %d, want %s", x, h, code, key)
			}
		}
		for _, h := range heapsOf(n) {
			want, isOne := regular[heapKey(h)]
			if yes, code := impl.IsRegularHeap(h); yes != isOne || code != impl.ErrNone {
				t.Errorf("IsRegularHeap(%v) = %v, %d", h, yes, code)
			}
			wantedCode := int64(impl.ErrState)
			if isOne {
				wantedCode = impl.ErrNone
			}
			if x, code := impl.StateOfHeap(h); !sameState(x, want) || code != wantedCode {
				t.Errorf("StateOfHeap(%v) = %v, %d, want %v, %d", h, x, code, want, wantedCode)
			}
		}
	}
}

func TestWrongPairsByHand(t *testing.T) {
	cases := []struct {
		h       impl.Heap
		want    int64
		regular bool
	}{
		{heap(nil, nil, nil), 0, true},
		{onPeg(1, 0), 0, true},
		{onPeg(0, 1, 0), 0, true},
		{onPeg(0, 0, 1), 1, false},
		{onPeg(2, 0, 1), 1, false},
		{heap([]int64{0}, []int64{1}, nil), 0, true},
		{heap([]int64{1}, []int64{0}, nil), 0, true},
		{onPeg(1, 0, 2, 1), 2, false},
		{onPeg(1, 2, 0, 1), 1, false},
		{onPeg(1, 1, 2, 0), 1, false},
		{onPeg(1, 1, 0, 2), 2, false},
		{onPeg(0, 0, 1, 2), 3, false},
		{heap([]int64{0, 1}, nil, []int64{2}), 1, false},
		{heap([]int64{2, 1}, nil, []int64{0}), 0, true},
		{heap([]int64{0, 1}, nil, []int64{2, 3}), 2, false},
		{heap([]int64{1, 0}, nil, []int64{2, 3}), 1, false},
		{heap([]int64{2, 0}, []int64{3, 1}, nil), 0, true},
		{onPeg(0, 3, 2, 1, 0), 0, true},
		{onPeg(0, 3, 2, 0, 1), 1, false},
		{onPeg(1, 2, 3, 1, 0), 1, false},
		{onPeg(2, 0, 3, 2, 1), 3, false},
		{onPeg(2, 2, 1, 0, 3), 3, false},
		{onPeg(0, 0, 1, 2, 3), 6, false},
		{onPeg(1, 0, 1, 2, 3), 6, false},
		{onPeg(2, 0, 1, 2, 3), 6, false},
	}
	for _, c := range cases {
		if count, code := impl.CountWrongPairs(c.h); count != c.want || code != impl.ErrNone {
			t.Errorf("CountWrongPairs(%v) = %d, %d, want %d", c.h, count, code, c.want)
		}
		if yes, code := impl.IsRegularHeap(c.h); yes != c.regular || code != impl.ErrNone {
			t.Errorf("IsRegularHeap(%v) = %v, %d", c.h, yes, code)
		}
	}
}

func TestCountWrongPairs(t *testing.T) {
	for _, h := range allHeaps() {
		want := wrongPairsOf(h)
		if count, code := impl.CountWrongPairs(h); count != want || code != impl.ErrNone {
			t.Errorf("CountWrongPairs(%v) = %d, %d, want %d", h, count, code, want)
		}
	}
}

func TestCountHeaps(t *testing.T) {
	for n, want := range []int64{1, 3, 12, 60, 360} {
		if count, code := impl.CountHeaps(int64(n)); count != want || code != impl.ErrNone {
			t.Errorf("CountHeaps(%d) = %d, %d, want %d", n, count, code, want)
		}
		if listed := len(heapsOf(int64(n))); int64(listed) != want {
			t.Errorf("%d heaps of %d discs, want %d", listed, n, want)
		}
	}
}
