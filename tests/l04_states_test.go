package tests

import (
	"slices"
	"testing"

	"loop.example/g01321/impl"
)

// TestWordsOfStatesByHand has states and their words.
func TestWordsOfStatesByHand(t *testing.T) {
	cases := []struct{ discs, word []int64 }{
		{nil, nil},
		{[]int64{}, nil},
		{[]int64{0}, []int64{0}},
		{[]int64{1}, []int64{1}},
		{[]int64{2}, []int64{2}},
		{[]int64{0, 0}, []int64{0, 0}},
		{[]int64{1, 0}, []int64{2, 0}},
		{[]int64{2, 0}, []int64{1, 0}},
		{[]int64{0, 1}, []int64{2, 1}},
		{[]int64{0, 1, 2}, []int64{2, 0, 2}},
		{[]int64{0, 0, 1}, []int64{2, 2, 1}},
		{[]int64{2, 1, 1}, []int64{2, 1, 1}},
		{tower(2, 8), tower(2, 8)},
		{[]int64{0, 0, 0, 0, 0, 0, 0, 1}, []int64{2, 2, 2, 2, 2, 2, 2, 1}},
	}
	for _, c := range cases {
		if word, code := impl.WordOfState(state(3, c.discs...)); !slices.Equal(word, c.word) || code != impl.ErrNone {
			t.Errorf("WordOfState(%v) = %v, %d, want %v", c.discs, word, code, c.word)
		}
		if x, code := impl.StateOfWord(c.word); !sameState(x, state(3, c.discs...)) || code != impl.ErrNone {
			t.Errorf("StateOfWord(%v) = %v, %d, want %v", c.word, x, code, c.discs)
		}
	}
}

// TestWordsOfStates has all states of three pegs.
func TestWordsOfStates(t *testing.T) {
	for x := range threePegStates() {
		want := wordByReflections(x)
		if word, code := impl.WordOfState(x); !slices.Equal(word, want) || code != impl.ErrNone {
			t.Fatalf("WordOfState(%v) = %v, %d, want %v", x, word, code, want)
		}
		if y, code := impl.StateOfWord(want); !sameState(y, x) || code != impl.ErrNone {
			t.Fatalf("StateOfWord(%v) = %v, %d, want %v", want, y, code, x)
		}
	}
}
