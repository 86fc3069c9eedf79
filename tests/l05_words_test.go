package tests

import (
	"slices"
	"testing"

	"loop.example/g01321/impl"
)

func TestIsRings(t *testing.T) {
	if impl.MaxRings != 16 {
		t.Errorf("MaxRings = %d", impl.MaxRings)
	}
	if !impl.IsRings(nil) || !impl.IsRings([]int64{}) {
		t.Errorf("IsRings of the word of no rings = false")
	}
	for word := range ringWords() {
		if !impl.IsRings(word) {
			t.Fatalf("IsRings(%v) = false", word)
		}
	}
	for why, list := range noRings() {
		if impl.IsRings(list) {
			t.Errorf("IsRings of %s = true", why)
		}
	}
}

// TestIsRingsOfShortLists has all lists of at most four numbers in -2..3.
func TestIsRingsOfShortLists(t *testing.T) {
	for n := range int64(5) {
		for _, list := range wordsOf(6, n) {
			want := true
			for i := range list {
				list[i] -= 2
				want = want && (list[i] == 0 || list[i] == 1)
			}
			if impl.IsRings(list) != want {
				t.Errorf("IsRings(%v) = %v", list, !want)
			}
		}
	}
}

func TestIsRingsLooksAtEachPlace(t *testing.T) {
	for n := range int64(impl.MaxRings + 1) {
		for i := range n {
			for _, number := range append(oddNumbers(), 2, 3, 256, 257) {
				word := tower(1, n)
				word[i] = number
				if impl.IsRings(word) {
					t.Errorf("IsRings(%v) = true", word)
				}
			}
		}
	}
}

// TestNumbersOfRings has words of 16 rings, and of 17.
func TestNumbersOfRings(t *testing.T) {
	for n := range int64(70) {
		for number := range int64(2) {
			if yes := impl.IsRings(tower(number, n)); yes != (n <= 16) {
				t.Errorf("IsRings(%d times %d) = %v", n, number, yes)
			}
		}
	}
}

func TestRingsThatChangeByHand(t *testing.T) {
	cases := []struct{ word, want []int64 }{
		{nil, nil},
		{[]int64{}, nil},
		{[]int64{0}, []int64{0}},
		{[]int64{1}, []int64{0}},
		{[]int64{0, 0}, []int64{0}},
		{[]int64{1, 0}, []int64{0, 1}},
		{[]int64{0, 1}, []int64{0}},
		{[]int64{1, 1}, []int64{0, 1}},
		{[]int64{0, 1, 0}, []int64{0, 2}},
		{[]int64{0, 1, 1}, []int64{0, 2}},
		{[]int64{0, 0, 1}, []int64{0}},
		{[]int64{1, 1, 1}, []int64{0, 1}},
		{[]int64{0, 0, 1, 0, 1}, []int64{0, 3}},
		{[]int64{0, 0, 1, 1, 1}, []int64{0, 3}},
		{tower(0, 16), []int64{0}},
		{tower(1, 16), []int64{0, 1}},
		{lastAloneOn(16), []int64{0}},
		{changed(tower(0, 16), 14), []int64{0, 15}},
		{changed(lastAloneOn(16), 14), []int64{0, 15}},
	}
	for _, c := range cases {
		if rings, code := impl.RingsThatChange(c.word); !slices.Equal(rings, c.want) || code != impl.ErrNone {
			t.Errorf("RingsThatChange(%v) = %v, %d, want %v", c.word, rings, code, c.want)
		}
	}
}

func TestRingsThatChange(t *testing.T) {
	for word := range ringWords() {
		want := changeable(word)
		if rings, code := impl.RingsThatChange(word); !slices.Equal(rings, want) || code != impl.ErrNone {
			t.Fatalf("RingsThatChange(%v) = %v, %d, want %v", word, rings, code, want)
		}
	}
}

func TestChangeRingByHand(t *testing.T) {
	cases := []struct {
		word []int64
		i    int64
		want []int64
	}{
		{[]int64{0}, 0, []int64{1}},
		{[]int64{1}, 0, []int64{0}},
		{[]int64{0, 0, 0}, 0, []int64{1, 0, 0}},
		{[]int64{1, 0, 0}, 1, []int64{1, 1, 0}},
		{[]int64{1, 1, 0}, 1, []int64{1, 0, 0}},
		{[]int64{1, 1, 0}, 0, []int64{0, 1, 0}},
		{[]int64{0, 1, 0}, 2, []int64{0, 1, 1}},
		{[]int64{0, 1, 1}, 2, []int64{0, 1, 0}},
		{tower(1, 16), 1, changed(tower(1, 16), 1)},
		{changed(lastAloneOn(16), 14), 15, changed(tower(0, 16), 14)},
	}
	for _, c := range cases {
		if word, code := impl.ChangeRing(c.word, c.i); !slices.Equal(word, c.want) || code != impl.ErrNone {
			t.Errorf("ChangeRing(%v, %d) = %v, %d, want %v", c.word, c.i, word, code, c.want)
		}
	}
}

// TestChangeRing has all rings of all words, those that cannot be changed, too.
func TestChangeRing(t *testing.T) {
	for word := range ringWords() {
		free := changeable(word)
		for i := range int64(len(word)) {
			var want []int64
			wantedCode := int64(impl.ErrState)
			if slices.Contains(free, i) {
				want, wantedCode = changed(word, i), impl.ErrNone
			}
			if next, code := impl.ChangeRing(word, i); !slices.Equal(next, want) || code != wantedCode {
				t.Fatalf("ChangeRing(%v, %d) = %v, %d, want %v, %d", word, i, next, code, want, wantedCode)
			}
		}
	}
}

func TestRankOfRingsByHand(t *testing.T) {
	cases := []struct {
		word []int64
		want int64
	}{
		{nil, 0},
		{[]int64{}, 0},
		{[]int64{0}, 0},
		{[]int64{1}, 1},
		{[]int64{1, 1}, 2},
		{[]int64{0, 1}, 3},
		{[]int64{1, 1, 1}, 5},
		{[]int64{0, 0, 1}, 7},
		{[]int64{0, 1, 0, 1}, 12},
		{[]int64{1, 0, 0, 1}, 14},
		{tower(0, 16), 0},
		{tower(1, 16), 43690},
		{lastAloneOn(16), 65535},
		{changed(lastAloneOn(16), 0), 65534},
		{changed(tower(0, 16), 14), 32767},
	}
	for _, c := range cases {
		if rank, code := impl.RankOfRings(c.word); rank != c.want || code != impl.ErrNone {
			t.Errorf("RankOfRings(%v) = %d, %d, want %d", c.word, rank, code, c.want)
		}
		n := int64(len(c.word))
		if word, code := impl.RingsOfRank(n, c.want); !slices.Equal(word, c.word) || code != impl.ErrNone {
			t.Errorf("RingsOfRank(%d, %d) = %v, %d, want %v", n, c.want, word, code, c.word)
		}
	}
}

func TestRankOfRings(t *testing.T) {
	for word := range ringWords() {
		want := rankBySums(word)
		if rank, code := impl.RankOfRings(word); rank != want || code != impl.ErrNone {
			t.Fatalf("RankOfRings(%v) = %d, %d, want %d", word, rank, code, want)
		}
	}
}

// TestRingsOfRank has all words in the order of a search from that with all rings off.
func TestRingsOfRank(t *testing.T) {
	for n, all := range ringGraphs() {
		for r, want := range all.inOrder() {
			if word, code := impl.RingsOfRank(n, int64(r)); !slices.Equal(word, want) || code != impl.ErrNone {
				t.Fatalf("RingsOfRank(%d, %d) = %v, %d, want %v", n, r, word, code, want)
			}
		}
	}
}

func TestOppositeRingsByHand(t *testing.T) {
	cases := []struct{ word, want []int64 }{
		{nil, nil},
		{[]int64{}, nil},
		{[]int64{0}, []int64{1}},
		{[]int64{1}, []int64{0}},
		{[]int64{0, 0}, []int64{0, 1}},
		{[]int64{1, 0}, []int64{1, 1}},
		{[]int64{1, 0, 0}, []int64{1, 0, 1}},
		{[]int64{0, 1, 1, 1}, []int64{0, 1, 1, 0}},
		{tower(0, 16), lastAloneOn(16)},
		{tower(1, 16), slices.Concat(tower(1, 15), tower(0, 1))},
		{lastAloneOn(16), tower(0, 16)},
	}
	for _, c := range cases {
		if word, code := impl.OppositeRings(c.word); !slices.Equal(word, c.want) || code != impl.ErrNone {
			t.Errorf("OppositeRings(%v) = %v, %d, want %v", c.word, word, code, c.want)
		}
	}
}

// TestOppositeRings has all words in their order, and backwards.
func TestOppositeRings(t *testing.T) {
	for _, all := range ringGraphs() {
		words := all.inOrder()
		for r, word := range words {
			want := words[len(words)-1-r]
			if opposite, code := impl.OppositeRings(word); !slices.Equal(opposite, want) || code != impl.ErrNone {
				t.Fatalf("OppositeRings(%v) = %v, %d, want %v", word, opposite, code, want)
			}
		}
	}
}
