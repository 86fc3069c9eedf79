package tests

import (
	"slices"
	"testing"

	"loop.example/g01321/impl"
)

// wayOfTexts returns the moves with some texts.
func wayOfTexts(texts ...string) []impl.Move {
	var way []impl.Move
	for _, text := range texts {
		way = append(way, move(int64(text[0]-'0'), int64(text[2]-'0'), int64(text[4]-'0')))
	}
	return way
}

func TestHeapWayByHand(t *testing.T) {
	cases := []struct {
		h    impl.Heap
		peg  int64
		want []impl.Move
	}{
		{heap(nil, nil, nil), 0, nil},
		{heap(nil, nil, nil), 2, nil},
		{onPeg(0, 0), 0, nil},
		{onPeg(0, 0), 1, wayOfTexts("0:0>1")},
		{onPeg(1, 1, 0), 1, nil},
		{onPeg(0, 1, 0), 2, wayOfTexts("0:0>1", "1:0>2", "0:1>2")},
		{onPeg(0, 0, 1), 0, wayOfTexts("1:0>1", "0:0>2", "1:1>0", "0:2>0")},
		{onPeg(0, 0, 1), 1, wayOfTexts("1:0>1", "0:0>1")},
		{onPeg(0, 0, 1, 2), 0, wayOfTexts("2:0>1", "1:0>2", "0:0>2", "2:1>0", "0:2>1", "1:2>0", "0:1>0")},
		{onPeg(0, 0, 1, 2), 2, wayOfTexts("2:0>2", "1:0>2", "0:0>2")},
		{onPeg(2, 3, 2, 1, 0), 2, nil},
		{onPeg(0, 0, 1, 2, 3), 0, wayOfTexts("3:0>1", "2:0>2", "1:0>2", "0:0>2", "3:1>0", "0:2>0", "1:2>1", "0:0>1", "2:2>0", "0:1>2", "1:1>0", "0:2>0")},
		{onPeg(1, 0, 1, 2, 3), 0, wayOfTexts("3:1>0", "2:1>0", "1:1>0", "0:1>0")},
		{onPeg(0, 2, 3, 0, 1), 1, wayOfTexts("1:0>2", "0:0>2", "3:0>1", "2:0>1", "0:2>0", "1:2>1", "0:0>1")},
		{heap([]int64{1}, []int64{0, 3}, []int64{2}), 0, wayOfTexts("1:0>2", "3:1>0", "0:1>0", "1:2>1", "0:0>1", "2:2>0", "0:1>2", "1:1>0", "0:2>0")},
		{heap([]int64{1}, []int64{0, 3}, []int64{2}), 2, wayOfTexts("1:0>1", "2:2>0", "1:1>0", "3:1>2", "0:1>2", "1:0>1", "0:2>1", "2:0>2", "0:1>0", "1:1>2", "0:0>2")},
	}
	for _, c := range cases {
		if way, code := impl.HeapWay(c.h, c.peg); !slices.Equal(way, c.want) || code != impl.ErrNone {
			t.Errorf("HeapWay(%v, %d) = %v, %d, want %v", c.h, c.peg, way, code, c.want)
		}
		want := int64(len(c.want))
		if distance, code := impl.HeapDistance(c.h, c.peg); distance != want || code != impl.ErrNone {
			t.Errorf("HeapDistance(%v, %d) = %d, %d, want %d", c.h, c.peg, distance, code, want)
		}
	}
}

func TestHeapDistance(t *testing.T) {
	for all, goal := range heapGoals() {
		for place, h := range all.heaps {
			want := goal.distances[place]
			if want < 0 {
				t.Fatalf("no moves lead from %v to %d", h, goal.peg)
			}
			if distance, code := impl.HeapDistance(h, goal.peg); distance != want || code != impl.ErrNone {
				t.Errorf("HeapDistance(%v, %d) = %d, %d, want %d", h, goal.peg, distance, code, want)
			}
		}
	}
}

func TestHeapWay(t *testing.T) {
	for all, goal := range heapGoals() {
		for place, h := range all.heaps {
			want := all.chosenWay(int64(place), goal.distances)
			if way, code := impl.HeapWay(h, goal.peg); !slices.Equal(way, want) || code != impl.ErrNone {
				t.Errorf("HeapWay(%v, %d) = %v, %d, want %v", h, goal.peg, way, code, want)
			}
		}
	}
}

// TestDistancesOfNoDiscs has distances 0 for all pegs.
func TestDistancesOfNoDiscs(t *testing.T) {
	for peg := range int64(3) {
		for _, h := range []impl.Heap{heap(nil, nil, nil), heap([]int64{}, []int64{}, []int64{})} {
			distance, code := impl.HeapDistance(h, peg)
			way, wayCode := impl.HeapWay(h, peg)
			if distance != 0 || code != impl.ErrNone || len(way) != 0 || wayCode != impl.ErrNone {
				t.Errorf("of no discs to %d: the distance %d, %d, the way %v, %d", peg, distance, code, way, wayCode)
			}
		}
	}
}

// TestPerfectHeaps has heaps that are perfect on a peg, and with every disc the wrong way round on
// it.
func TestPerfectHeaps(t *testing.T) {
	wrongWayRound := []int64{0, 0, 4, 7, 12}
	for n := range int64(impl.MaxHeap + 1) {
		for from := range int64(3) {
			for to := range int64(3) {
				perfect, wrong := int64(1<<n-1), n
				if from == to {
					perfect, wrong = 0, wrongWayRound[n]
				}
				if distance, code := impl.HeapDistance(onPeg(from, downFrom(n)...), to); distance != perfect || code != impl.ErrNone {
					t.Errorf("a tower of %d discs from %d to %d: %d, %d, want %d", n, from, to, distance, code, perfect)
				}
				if distance, code := impl.HeapDistance(onPeg(from, upTo(n)...), to); distance != wrong || code != impl.ErrNone {
					t.Errorf("%d discs the wrong way round from %d to %d: %d, %d, want %d", n, from, to, distance, code, wrong)
				}
			}
		}
	}
}

func TestWorstHeapsByHand(t *testing.T) {
	wants := [][2]int64{{0, 1}, {1, 2}, {4, 1}, {9, 1}, {19, 1}}
	for n, want := range wants {
		for peg := range int64(3) {
			if worst, count, code := impl.WorstHeaps(int64(n), peg); worst != want[0] || count != want[1] || code != impl.ErrNone {
				t.Errorf("WorstHeaps(%d, %d) = %d, %d, %d, want %v", n, peg, worst, count, code, want)
			}
		}
	}
}

func TestWorstHeaps(t *testing.T) {
	for all, goal := range heapGoals() {
		levels := levelsOf(goal.distances)
		want := int64(len(levels)) - 1
		if worst, count, code := impl.WorstHeaps(goal.n, goal.peg); worst != want || count != levels[want] || code != impl.ErrNone {
			t.Errorf("WorstHeaps(%d, %d) = %d, %d, %d, want %d, %d", goal.n, goal.peg, worst, count, code, want, levels[want])
		}
		if len(all.heaps) != len(goal.distances) {
			t.Errorf("%d heaps, %d distances", len(all.heaps), len(goal.distances))
		}
	}
}
