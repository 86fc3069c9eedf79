package tests

import (
	"slices"
	"testing"

	"loop.example/g01321/impl"
)

// wordArguments returns pairs of lists: equal words, ones with one and with two shortest ways, ones
// of different lengths, and ones that are no words of 3 letters.
func wordArguments() [][2][]int64 {
	return [][2][]int64{
		{nil, nil},
		{{0}, {2}},
		{{0, 1, 2}, {0, 0, 0}},
		{{2, 0}, {2, 1}},
		{{2, 2, 0}, {2, 2, 1}},
		{{2, 0, 1}, {2, 0, 1}},
		{{0, 1}, {0, 1, 2}},
		{{0, 3}, {1, 2}},
		{{2, 0, 0, 1, 0, 2, 2, 0}, {0, 1, 2, 0, 1, 2, 0, 1}},
		{{2, 2, 2, 2, 2, 2, 2, 0}, {2, 2, 2, 2, 2, 2, 2, 1}},
	}
}

// TestWordsNotModified calls each function of chapter 4 that takes a list, with spare capacity
// behind it.
func TestWordsNotModified(t *testing.T) {
	for _, p := range wordArguments() {
		a, b := roomy(p[0]...), roomy(p[1]...)
		images := [][]int64{roomy(1, 2, 0), roomy(1, 1, 0), roomy(3, 2, 1, 0)}
		check := func(name string) {
			t.Helper()
			checkRoomy(t, name, a, p[0]...)
			checkRoomy(t, name, b, p[1]...)
			checkRoomy(t, name, images[0], 1, 2, 0)
			checkRoomy(t, name, images[1], 1, 1, 0)
			checkRoomy(t, name, images[2], 3, 2, 1, 0)
		}
		for k := int64(2); k <= 6; k++ {
			for _, calls := range []map[string]wordCall{oneWordCalls(), twoWordCalls()} {
				for name, call := range calls {
					for c := range k + 1 {
						call(k, a, b, c)
					}
					check(name)
				}
			}
			impl.IsSierpinskiWord(k, a)
			check("IsSierpinskiWord")
			for _, list := range images {
				impl.RenameWord(k, a, list)
				check("RenameWord")
			}
		}
		impl.WordOfState(state(3, a...))
		check("WordOfState")
		impl.StateOfWord(a)
		check("StateOfWord")
	}
}

// wordLists returns calls of the functions of chapter 4 that return lists, of the list a and the
// images.
func wordLists(a, images []int64) map[string]func() [][]int64 {
	return map[string]func() [][]int64{
		"WordNeighbours": func() [][]int64 { words, _ := impl.WordNeighbours(3, a); return words },
		"WordOfState":    func() [][]int64 { word, _ := impl.WordOfState(state(3, a...)); return [][]int64{word} },
		"StateOfWord":    func() [][]int64 { x, _ := impl.StateOfWord(a); return [][]int64{x.Discs} },
		"RenameWord":     func() [][]int64 { word, _ := impl.RenameWord(3, a, images); return [][]int64{word} },
	}
}

// TestWordListsShareNoMemory overwrites each list of a result, with its spare capacity, and looks at
// the arguments, at the other lists of the result, and at other results. Some words are renamed to
// themselves, and some states are their words.
func TestWordListsShareNoMemory(t *testing.T) {
	for _, p := range wordArguments() {
		a, images := roomy(p[0]...), roomy(0, 1, 2)
		for name, call := range wordLists(a, images) {
			want := call()
			for i := range want {
				other, got := call(), call()
				spoil(got[i])
				checkRoomy(t, name, a, p[0]...)
				checkRoomy(t, name, images, 0, 1, 2)
				for j := range got {
					if j != i && !slices.Equal(got[j], want[j]) {
						t.Errorf("%s of %v: the lists %d and %d share memory", name, a, i, j)
					}
				}
				if again := call(); !sameLists(other, want) || !sameLists(again, want) {
					t.Errorf("%s of %v: %v, then %v and %v", name, a, want, other, again)
				}
			}
		}
	}
}

// TestListOfNeighboursIsNew overwrites the list of the lists itself.
func TestListOfNeighboursIsNew(t *testing.T) {
	word := []int64{0, 1, 2}
	want, _ := impl.WordNeighbours(3, word)
	got, _ := impl.WordNeighbours(3, word)
	all := got[:cap(got)]
	for i := range all {
		all[i] = nil
	}
	if again, _ := impl.WordNeighbours(3, word); len(want) != 3 || !sameLists(again, want) {
		t.Errorf("WordNeighbours of %v: %v, and once more %v", word, want, again)
	}
}
