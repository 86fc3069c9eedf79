package tests

import (
	"slices"
	"testing"

	"loop.example/g01321/impl"
)

// Promise 4, and the guarantee of chapter 4.

func TestPromise4NeighboursHaveTheDistance1(t *testing.T) {
	for k, n := range shapes() {
		for _, word := range wordsOf(k, n) {
			neighbours, code := impl.WordNeighbours(k, word)
			wantCode(t, "WordNeighbours", code, impl.ErrNone)
			for _, next := range neighbours {
				there, code := impl.WordDistance(k, word, next)
				back, backCode := impl.WordDistance(k, next, word)
				if there != 1 || back != 1 || code != impl.ErrNone || backCode != impl.ErrNone {
					t.Fatalf("the distance of the neighbours %v and %v of %d letters is %d, and back %d", word, next, k, there, back)
				}
				if ways, code := impl.CountWordWays(k, word, next); ways != 1 || code != impl.ErrNone {
					t.Fatalf("between the neighbours %v and %v of %d letters there are %d ways", word, next, k, ways)
				}
			}
		}
	}
}

// TestPromise4TheDistance1HasNeighbours has the words with the distance 1 from others.
func TestPromise4TheDistance1HasNeighbours(t *testing.T) {
	for all := range wordGraphs() {
		for i := range all.someWords() {
			a := all.words[i]
			var near [][]int64
			for _, b := range all.words {
				if distance, _ := impl.WordDistance(all.letters, a, b); distance == 1 {
					near = append(near, b)
				}
			}
			slices.SortFunc(near, slices.Compare)
			neighbours, code := impl.WordNeighbours(all.letters, a)
			if !sameLists(near, neighbours) || code != impl.ErrNone {
				t.Fatalf("%v of %d letters has the neighbours %v, and the distance 1 of %v", a, all.letters, neighbours, near)
			}
		}
	}
}

func TestPromise4StatesLeadBackFromTheirWords(t *testing.T) {
	seen := map[[impl.MaxDiscs + 1]int64]bool{}
	for x := range threePegStates() {
		word, code := impl.WordOfState(x)
		if !impl.IsSierpinskiWord(3, word) || len(word) != len(x.Discs) || code != impl.ErrNone {
			t.Fatalf("WordOfState(%v) = %v, %d", x, word, code)
		}
		if y, code := impl.StateOfWord(word); !sameState(x, y) || code != impl.ErrNone {
			t.Fatalf("the word %v of %v leads to %v, %d", word, x, y, code)
		}
		key := [impl.MaxDiscs + 1]int64{int64(len(word))}
		copy(key[1:], word)
		if seen[key] {
			t.Fatalf("two states have the word %v", word)
		}
		seen[key] = true
	}
}

func TestPromise4WordsLeadBackFromTheirStates(t *testing.T) {
	for n := range int64(impl.MaxDiscs + 1) {
		for _, word := range wordsOf(3, n) {
			x, code := impl.StateOfWord(word)
			if !impl.IsState(x) || x.Pegs != 3 || code != impl.ErrNone {
				t.Fatalf("StateOfWord(%v) = %v, %d", word, x, code)
			}
			if back, code := impl.WordOfState(x); !slices.Equal(back, word) || code != impl.ErrNone {
				t.Fatalf("the state %v of %v leads to %v, %d", x, word, back, code)
			}
		}
	}
}

func TestWordDistancesGoBothWays(t *testing.T) {
	for p := range wordPairs() {
		there, code := impl.WordDistance(p.k, p.a, p.b)
		back, backCode := impl.WordDistance(p.k, p.b, p.a)
		if there != back || code != impl.ErrNone || backCode != impl.ErrNone {
			t.Fatalf("the distance of %v is %d, and back %d", p, there, back)
		}
		ways, code := impl.CountWordWays(p.k, p.a, p.b)
		waysBack, backCode := impl.CountWordWays(p.k, p.b, p.a)
		if ways != waysBack || code != impl.ErrNone || backCode != impl.ErrNone {
			t.Fatalf("there are %d ways between %v, and back %d", ways, p, waysBack)
		}
	}
}

// TestDistancesToExtremesAreWordDistances holds both functions of distances against one another.
func TestDistancesToExtremesAreWordDistances(t *testing.T) {
	for k, n := range shapes() {
		for _, word := range wordsOf(k, n) {
			for j := range k {
				distance, code := impl.DistanceToExtreme(k, word, j)
				wantCode(t, "DistanceToExtreme", code, impl.ErrNone)
				if between, code := impl.WordDistance(k, word, tower(j, n)); between != distance || code != impl.ErrNone {
					t.Fatalf("the distance of %v and the extreme word of %d is %d, and %d as one of words", word, j, distance, between)
				}
			}
		}
	}
}

// TestRenamedWordsHaveTheSameDistances has, of all pairs, the permutations by turns.
func TestRenamedWordsHaveTheSameDistances(t *testing.T) {
	lists := map[int64][][]int64{3: permutations(3), 4: permutations(4), 5: permutations(5)}
	turn := 0
	for p := range wordPairs() {
		images := lists[p.k][turn%len(lists[p.k])]
		turn++
		a, code := impl.RenameWord(p.k, p.a, images)
		wantCode(t, "RenameWord", code, impl.ErrNone)
		b, code := impl.RenameWord(p.k, p.b, images)
		wantCode(t, "RenameWord", code, impl.ErrNone)
		distance, code := impl.WordDistance(p.k, p.a, p.b)
		wantCode(t, "WordDistance", code, impl.ErrNone)
		if renamed, code := impl.WordDistance(p.k, a, b); renamed != distance || code != impl.ErrNone {
			t.Fatalf("the distance of %v is %d, and renamed by %v %d", p, distance, images, renamed)
		}
	}
}

// TestWordEdgesAreHalfOfTheNeighbours holds the numbers of edges against all neighbours, and sums
// against all distances.
func TestWordEdgesAreHalfOfTheNeighbours(t *testing.T) {
	for k, n := range shapes() {
		neighbours, sum := int64(0), int64(0)
		for _, word := range wordsOf(k, n) {
			words, code := impl.WordNeighbours(k, word)
			wantCode(t, "WordNeighbours", code, impl.ErrNone)
			neighbours += int64(len(words))
			distance, code := impl.DistanceToExtreme(k, word, k-1)
			wantCode(t, "DistanceToExtreme", code, impl.ErrNone)
			sum += distance
		}
		if edges, code := impl.CountWordEdges(k, n); 2*edges != neighbours || code != impl.ErrNone {
			t.Errorf("of %d numbers of %d letters there are %d edges and %d neighbours", n, k, edges, neighbours)
		}
		if total, code := impl.SumToExtreme(k, n); total != sum || code != impl.ErrNone {
			t.Errorf("of %d numbers of %d letters the sum is %d, the distances add up to %d", n, k, total, sum)
		}
	}
}
