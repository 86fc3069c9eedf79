package tests

import (
	"testing"

	"loop.example/g01321/impl"
)

// Promise 6, and the guarantee of chapter 6; what it tells of states is tested with promise 14.

// wrongPairs returns the number of wrong pairs of a heap, which has to have one.
func wrongPairs(t *testing.T, h impl.Heap) int64 {
	t.Helper()
	count, code := impl.CountWrongPairs(h)
	wantCode(t, "CountWrongPairs", code, impl.ErrNone)
	return count
}

// heapDistance returns the distance of a heap and a peg, which have to have one.
func heapDistance(t *testing.T, h impl.Heap, a int64) int64 {
	t.Helper()
	distance, code := impl.HeapDistance(h, a)
	wantCode(t, "HeapDistance", code, impl.ErrNone)
	return distance
}

// perfectHeap returns the heap of a perfect state.
func perfectHeap(t *testing.T, n, a int64) impl.Heap {
	t.Helper()
	x, code := impl.PerfectState(3, n, a)
	wantCode(t, "PerfectState", code, impl.ErrNone)
	h, code := impl.HeapOf(x)
	wantCode(t, "HeapOf", code, impl.ErrNone)
	return h
}

func TestPromise6HeapsAreRegularExactlyWithoutWrongPairs(t *testing.T) {
	for _, h := range allHeaps() {
		regular, code := impl.IsRegularHeap(h)
		wantCode(t, "IsRegularHeap", code, impl.ErrNone)
		if count := wrongPairs(t, h); regular != (count == 0) {
			t.Errorf("%v has %d wrong pairs, regular: %v", h, count, regular)
		}
		x, code := impl.StateOfHeap(h)
		if regular && code != impl.ErrNone || !regular && code != impl.ErrState {
			t.Errorf("StateOfHeap(%v) = %v, %d, regular: %v", h, x, code, regular)
		}
	}
}

// TestPromise6WaysHaveAsManyMovesAsDistancesTell goes each way, move by move.
func TestPromise6WaysHaveAsManyMovesAsDistancesTell(t *testing.T) {
	for n, h := range allHeaps() {
		for peg := range int64(3) {
			distance := heapDistance(t, h, peg)
			way, code := impl.HeapWay(h, peg)
			if int64(len(way)) != distance || code != impl.ErrNone {
				t.Fatalf("the way from %v to %d has %d moves, %d, the distance is %d", h, peg, len(way), code, distance)
			}
			now := h
			for i, m := range way {
				now, code = impl.AfterHeapMove(now, m)
				wantCode(t, "AfterHeapMove", code, impl.ErrNone)
				if left := heapDistance(t, now, peg); left != distance-int64(i)-1 {
					t.Fatalf("%d moves of the way from %v to %d lead to %v with the distance %d", i+1, h, peg, now, left)
				}
			}
			if !sameHeap(now, perfectHeap(t, n, peg)) {
				t.Fatalf("the way from %v to %d leads to %v", h, peg, now)
			}
		}
	}
}

// TestPromise6MovesLeadNearerByAtMost1 has all legal moves; of each heap that is not perfect on the
// peg, one leads nearer, and the first such one begins the chosen way.
func TestPromise6MovesLeadNearerByAtMost1(t *testing.T) {
	for _, h := range allHeaps() {
		moves, code := impl.HeapMoves(h)
		wantCode(t, "HeapMoves", code, impl.ErrNone)
		for peg := range int64(3) {
			distance := heapDistance(t, h, peg)
			var nearer []impl.Move
			for _, m := range moves {
				after, code := impl.AfterHeapMove(h, m)
				wantCode(t, "AfterHeapMove", code, impl.ErrNone)
				behind := heapDistance(t, after, peg)
				if behind < distance-1 {
					t.Fatalf("from %v with the distance %d to %d, %v leads to %d", h, distance, peg, m, behind)
				}
				if behind == distance-1 {
					nearer = append(nearer, m)
				}
			}
			way, code := impl.HeapWay(h, peg)
			wantCode(t, "HeapWay", code, impl.ErrNone)
			if (len(nearer) > 0) != (distance > 0) || distance > 0 && way[0] != nearer[0] {
				t.Fatalf("from %v with the distance %d to %d, %v lead nearer, the way is %v", h, distance, peg, nearer, way)
			}
		}
	}
}

func TestPromise6OnlyPerfectHeapsHaveTheDistance0(t *testing.T) {
	for n, h := range allHeaps() {
		for peg := range int64(3) {
			perfect := sameHeap(h, perfectHeap(t, n, peg))
			if distance := heapDistance(t, h, peg); (distance == 0) != perfect {
				t.Errorf("the distance of %v and %d is %d", h, peg, distance)
			}
		}
	}
}

// TestPromise6HeapsBehindMovesAreHeaps also has regular heaps, which stay regular.
func TestPromise6HeapsBehindMovesAreHeaps(t *testing.T) {
	for n, h := range allHeaps() {
		moves, code := impl.HeapMoves(h)
		wantCode(t, "HeapMoves", code, impl.ErrNone)
		if (len(moves) == 0) != (n == 0) {
			t.Errorf("%v has the moves %v", h, moves)
		}
		for _, m := range moves {
			after, code := impl.AfterHeapMove(h, m)
			if !impl.IsHeap(after) || code != impl.ErrNone {
				t.Errorf("AfterHeapMove(%v, %v) = %v, %d", h, m, after, code)
			}
			if wrongPairs(t, h) == 0 && wrongPairs(t, after) != 0 {
				t.Errorf("%v makes %v of the regular heap %v", m, after, h)
			}
		}
	}
}

func TestPromise6WorstHeapsHaveTheGreatestDistance(t *testing.T) {
	for n := range int64(impl.MaxHeap + 1) {
		heaps := heapsOf(n)
		for peg := range int64(3) {
			greatest, with := int64(0), map[int64]int64{}
			for _, h := range heaps {
				distance := heapDistance(t, h, peg)
				greatest = max(greatest, distance)
				with[distance]++
			}
			worst, count, code := impl.WorstHeaps(n, peg)
			if worst != greatest || count != with[greatest] || code != impl.ErrNone {
				t.Errorf("WorstHeaps(%d, %d) = %d, %d, %d, want %d, %d", n, peg, worst, count, code, greatest, with[greatest])
			}
		}
		if count, code := impl.CountHeaps(n); count != int64(len(heaps)) || code != impl.ErrNone {
			t.Errorf("CountHeaps(%d) = %d, %d, want %d", n, count, code, len(heaps))
		}
	}
}
