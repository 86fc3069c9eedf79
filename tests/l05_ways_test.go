package tests

import (
	"slices"
	"testing"

	"loop.example/g01321/impl"
)

func TestWayOfRingsByHand(t *testing.T) {
	cases := []struct{ a, b, want []int64 }{
		{nil, nil, nil},
		{nil, []int64{}, nil},
		{[]int64{0}, []int64{0}, nil},
		{[]int64{0}, []int64{1}, []int64{0}},
		{[]int64{1}, []int64{0}, []int64{0}},
		{[]int64{0, 0}, []int64{0, 1}, []int64{0, 1, 0}},
		{[]int64{1, 1}, []int64{0, 0}, []int64{1, 0}},
		{[]int64{1, 1}, []int64{0, 1}, []int64{0}},
		{[]int64{1, 0}, []int64{1, 1}, []int64{1}},
		{[]int64{0, 0, 0}, []int64{0, 0, 1}, []int64{0, 1, 0, 2, 0, 1, 0}},
		{[]int64{0, 0, 1}, []int64{0, 0, 0}, []int64{0, 1, 0, 2, 0, 1, 0}},
		{[]int64{1, 1, 1}, []int64{1, 1, 1}, nil},
		{[]int64{1, 1, 1, 1}, []int64{0, 0, 0, 0}, []int64{1, 0, 3, 0, 1, 0, 2, 0, 1, 0}},
		{[]int64{0, 0, 0, 0}, []int64{1, 1, 1, 1}, []int64{0, 1, 0, 2, 0, 1, 0, 3, 0, 1}},
		{tower(1, 16), changed(tower(1, 16), 0), []int64{0}},
		{tower(1, 16), changed(tower(1, 16), 1), []int64{1}},
		{changed(tower(0, 16), 14), changed(lastAloneOn(16), 14), []int64{15}},
		{tower(1, 16), tower(1, 16), nil},
		{lastAloneOn(16), lastAloneOn(16), nil},
	}
	for _, c := range cases {
		if way, code := impl.WayOfRings(c.a, c.b); !slices.Equal(way, c.want) || code != impl.ErrNone {
			t.Errorf("WayOfRings(%v, %v) = %v, %d, want %v", c.a, c.b, way, code, c.want)
		}
		want := int64(len(c.want))
		if distance, code := impl.DistanceOfRings(c.a, c.b); distance != want || code != impl.ErrNone {
			t.Errorf("DistanceOfRings(%v, %v) = %d, %d, want %d", c.a, c.b, distance, code, want)
		}
	}
}

// TestLongestWaysOfRings has, of all numbers of rings, the ways between both ends, and those that put
// all rings on and take them off.
func TestLongestWaysOfRings(t *testing.T) {
	for n := int64(1); n <= impl.MaxRings; n++ {
		off, on, last := tower(0, n), tower(1, n), lastAloneOn(n)
		cases := []struct {
			a, b []int64
			want int64
		}{
			{off, last, 1<<n - 1},
			{last, off, 1<<n - 1},
			{off, on, 1 << (n + 1) / 3},
			{on, off, 1 << (n + 1) / 3},
		}
		for _, c := range cases {
			if distance, code := impl.DistanceOfRings(c.a, c.b); distance != c.want || code != impl.ErrNone {
				t.Errorf("DistanceOfRings(%v, %v) = %d, %d, want %d", c.a, c.b, distance, code, c.want)
			}
			if way, code := impl.WayOfRings(c.a, c.b); int64(len(way)) != c.want || code != impl.ErrNone {
				t.Errorf("WayOfRings(%v, %v) has %d rings, %d, want %d", c.a, c.b, len(way), code, c.want)
			}
		}
	}
}

// placeOfRings returns the place of a word in its graph.
func placeOfRings(word []int64) int64 {
	return rankOfWord(2, word)
}

// TestDistanceOfRings has, of each number of rings, the distances from some words to all.
func TestDistanceOfRings(t *testing.T) {
	for n, all := range ringGraphs() {
		for _, a := range someRingWords(n) {
			distances, _ := search(all.neighbours, placeOfRings(a))
			for place, b := range all.words {
				if distance, code := impl.DistanceOfRings(a, b); distance != distances[place] || code != impl.ErrNone {
					t.Fatalf("DistanceOfRings(%v, %v) = %d, %d, want %d", a, b, distance, code, distances[place])
				}
			}
		}
	}
}

func TestWayOfRings(t *testing.T) {
	for n, all := range ringGraphs() {
		for _, b := range someRingWords(n) {
			distances, _ := search(all.neighbours, placeOfRings(b))
			for _, a := range someRingWords(n) {
				want := all.wayBySearch(placeOfRings(a), distances)
				if way, code := impl.WayOfRings(a, b); !slices.Equal(way, want) || code != impl.ErrNone {
					t.Fatalf("WayOfRings(%v, %v): code %d, %d rings, want %d", a, b, code, len(way), len(want))
				}
			}
		}
	}
}

func TestRingOfStepByHand(t *testing.T) {
	cases := []struct{ n, t, want int64 }{
		{1, 1, 0},
		{2, 1, 0},
		{2, 2, 1},
		{2, 3, 0},
		{3, 4, 2},
		{3, 7, 0},
		{4, 12, 2},
		{4, 8, 3},
		{5, 24, 3},
		{16, 1, 0},
		{16, 32768, 15},
		{16, 49152, 14},
		{16, 65280, 8},
		{16, 65534, 1},
		{16, 65535, 0},
	}
	for _, c := range cases {
		if ring, code := impl.RingOfStep(c.n, c.t); ring != c.want || code != impl.ErrNone {
			t.Errorf("RingOfStep(%d, %d) = %d, %d, want %d", c.n, c.t, ring, code, c.want)
		}
	}
}

// TestRingOfStep has the rings between the words in the order of a search, and the powers of 2 in the
// numbers of the steps.
func TestRingOfStep(t *testing.T) {
	for n, all := range ringGraphs() {
		for i, want := range all.ringsOfSteps() {
			step := int64(i) + 1
			if ring, code := impl.RingOfStep(n, step); ring != want || code != impl.ErrNone {
				t.Fatalf("RingOfStep(%d, %d) = %d, %d, want %d", n, step, ring, code, want)
			}
			if step%(1<<want) != 0 || step%(2<<want) == 0 {
				t.Fatalf("the ring %d of the step %d does not tell its greatest power of 2", want, step)
			}
		}
	}
}

func TestWholeNumber(t *testing.T) {
	wants := []int64{0, 1, 2, 5, 10, 21, 42, 85, 170, 341, 682, 1365, 2730, 5461, 10922, 21845, 43690}
	for n, want := range wants {
		if number, code := impl.WholeNumber(int64(n)); number != want || code != impl.ErrNone {
			t.Errorf("WholeNumber(%d) = %d, %d, want %d", n, number, code, want)
		}
		if rank := rankBySums(tower(1, int64(n))); rank != want {
			t.Errorf("the rank of %d rings on is %d, want %d", n, rank, want)
		}
	}
}

func TestDiscsOfWayByHand(t *testing.T) {
	cases := map[int64][]int64{
		0: nil,
		1: {0},
		2: {0, 1, 0},
		3: {0, 1, 0, 2, 0, 1, 0},
		4: {0, 1, 0, 2, 0, 1, 0, 3, 0, 1, 0, 2, 0, 1, 0},
	}
	for n, want := range cases {
		if discs, code := impl.DiscsOfWay(n); !slices.Equal(discs, want) || code != impl.ErrNone {
			t.Errorf("DiscsOfWay(%d) = %v, %d, want %v", n, discs, code, want)
		}
	}
}

// TestDiscsOfWay has the only shortest ways between perfect states.
func TestDiscsOfWay(t *testing.T) {
	for n := range int64(impl.MaxDiscs + 1) {
		all := towersOf(3, n)
		distances, _ := all.search(all.perfect(2))
		ways := all.shortestWays(all.perfect(0), distances)
		if len(ways) != 1 {
			t.Fatalf("%d discs have %d shortest ways", n, len(ways))
		}
		var want []int64
		for _, m := range ways[0] {
			want = append(want, m.Disc)
		}
		if discs, code := impl.DiscsOfWay(n); !slices.Equal(discs, want) || code != impl.ErrNone {
			t.Errorf("DiscsOfWay(%d) = %v, %d, want %v", n, discs, code, want)
		}
	}
}
