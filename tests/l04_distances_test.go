package tests

import (
	"slices"
	"testing"

	"loop.example/g01321/impl"
)

func TestDistanceToExtremeByHand(t *testing.T) {
	cases := []struct {
		k    int64
		word []int64
		j    int64
		want int64
	}{
		{3, nil, 0, 0},
		{5, nil, 4, 0},
		{3, []int64{1}, 1, 0},
		{3, []int64{1}, 2, 1},
		{3, []int64{0, 1}, 0, 2},
		{3, []int64{0, 1}, 1, 1},
		{3, []int64{0, 1}, 2, 3},
		{4, []int64{3, 0, 3}, 3, 2},
		{5, []int64{4, 4, 4, 4, 0}, 4, 16},
		{5, []int64{4, 4, 4, 4, 0}, 0, 15},
		{3, tower(2, 8), 2, 0},
		{3, tower(2, 8), 0, 255},
		{3, []int64{0, 1, 2, 0, 1, 2, 0, 1}, 1, 109},
	}
	for _, c := range cases {
		if distance, code := impl.DistanceToExtreme(c.k, c.word, c.j); distance != c.want || code != impl.ErrNone {
			t.Errorf("DistanceToExtreme(%d, %v, %d) = %d, %d, want %d", c.k, c.word, c.j, distance, code, c.want)
		}
	}
}

// TestDistanceToExtreme has all words and letters.
func TestDistanceToExtreme(t *testing.T) {
	for all := range wordGraphs() {
		for j := range all.letters {
			distances := all.distancesToExtreme(j)
			for rank, word := range all.words {
				distance, code := impl.DistanceToExtreme(all.letters, word, j)
				if distance != distances[rank] || code != impl.ErrNone {
					t.Fatalf("DistanceToExtreme(%d, %v, %d) = %d, %d, want %d", all.letters, word, j, distance, code, distances[rank])
				}
			}
		}
	}
}

// wordNumbers has the numbers of two words: noNumber stands, among the detours by all letters, for
// one of a letter that both words have at the greatest place with different numbers.
type wordNumbers struct {
	straight int64
	detours  []int64
	distance int64
	ways     int64
}

const noNumber = -1

// checkNumbers fails if a function of two different words returns something else.
func checkNumbers(t *testing.T, p wordPair, want wordNumbers) {
	t.Helper()
	if number, code := impl.StraightNumber(p.k, p.a, p.b); number != want.straight || code != impl.ErrNone {
		t.Fatalf("StraightNumber of %v = %d, %d, want %d", p, number, code, want.straight)
	}
	for c, detour := range want.detours {
		number, code := impl.DetourNumber(p.k, p.a, p.b, int64(c))
		if detour == noNumber && (number != 0 || code != impl.ErrState) {
			t.Fatalf("DetourNumber of %v by %d = %d, %d, want ErrState", p, c, number, code)
		}
		if detour != noNumber && (number != detour || code != impl.ErrNone) {
			t.Fatalf("DetourNumber of %v by %d = %d, %d, want %d", p, c, number, code, detour)
		}
	}
	if distance, code := impl.WordDistance(p.k, p.a, p.b); distance != want.distance || code != impl.ErrNone {
		t.Fatalf("WordDistance of %v = %d, %d, want %d", p, distance, code, want.distance)
	}
	if ways, code := impl.CountWordWays(p.k, p.a, p.b); ways != want.ways || code != impl.ErrNone {
		t.Fatalf("CountWordWays of %v = %d, %d, want %d", p, ways, code, want.ways)
	}
}

// TestWordPairsByHand has words between which the straight way, a detour, or both are shortest.
func TestWordPairsByHand(t *testing.T) {
	cases := []struct {
		pair wordPair
		want wordNumbers
	}{
		{wordPair{3, []int64{0}, []int64{1}}, wordNumbers{1, []int64{noNumber, noNumber, 2}, 1, 1}},
		{wordPair{5, []int64{4}, []int64{2}}, wordNumbers{1, []int64{2, 2, noNumber, 2, noNumber}, 1, 1}},
		{wordPair{3, []int64{0, 0}, []int64{2, 1}}, wordNumbers{3, []int64{noNumber, noNumber, 4}, 3, 1}},
		{wordPair{3, []int64{1, 0}, []int64{0, 1}}, wordNumbers{1, []int64{noNumber, noNumber, 5}, 1, 1}},
		{wordPair{3, []int64{2, 0}, []int64{2, 1}}, wordNumbers{3, []int64{noNumber, noNumber, 3}, 3, 2}},
		{wordPair{4, []int64{2, 0}, []int64{2, 1}}, wordNumbers{3, []int64{noNumber, noNumber, 3, 5}, 3, 2}},
		{wordPair{4, []int64{3, 2, 0}, []int64{2, 2, 1}}, wordNumbers{7, []int64{noNumber, noNumber, 6, 10}, 6, 1}},
		{wordPair{5, []int64{2, 2, 0}, []int64{0, 2, 1}}, wordNumbers{6, []int64{noNumber, noNumber, 6, 11, 11}, 6, 2}},
		{wordPair{5, []int64{4, 4, 0}, []int64{4, 4, 1}}, wordNumbers{7, []int64{noNumber, noNumber, 11, 11, 5}, 5, 1}},
		{wordPair{3, []int64{0, 1, 2, 2}, []int64{2, 1, 2, 2}}, wordNumbers{1, []int64{noNumber, 2, noNumber}, 1, 1}},
		{wordPair{3, tower(0, 8), tower(1, 8)}, wordNumbers{255, []int64{noNumber, noNumber, 383}, 255, 1}},
		{
			wordPair{3, []int64{2, 2, 2, 2, 2, 2, 2, 0}, []int64{2, 2, 2, 2, 2, 2, 2, 1}},
			wordNumbers{255, []int64{noNumber, noNumber, 129}, 129, 1},
		},
	}
	for _, c := range cases {
		checkNumbers(t, c.pair, c.want)
	}
}

// numbersBySearch returns the numbers of two different words, by searches for the extreme words of
// the graphs with the lesser places alone: toExtreme has the distances by letters.
func numbersBySearch(p wordPair, toExtreme map[[2]int64][][]int64) wordNumbers {
	i := greatestDifference(p.a, p.b)
	first, second := rankOfWord(p.k, p.a[:i]), rankOfWord(p.k, p.b[:i])
	distances := toExtreme[[2]int64{p.k, i}]
	numbers := wordNumbers{straight: distances[p.b[i]][first] + distances[p.a[i]][second] + 1}
	all := []int64{numbers.straight}
	for c := range p.k {
		detour := int64(noNumber)
		if c != p.a[i] && c != p.b[i] {
			detour = distances[c][first] + distances[c][second] + 1<<i + 1
			all = append(all, detour)
		}
		numbers.detours = append(numbers.detours, detour)
	}
	numbers.distance = slices.Min(all)
	for _, number := range all {
		if number == numbers.distance {
			numbers.ways++
		}
	}
	return numbers
}

// TestNumbersOfWordPairs also looks whether, for 3 to 5 letters, the straight way is shorter than all
// detours, longer than one, and as long.
func TestNumbersOfWordPairs(t *testing.T) {
	toExtreme := map[[2]int64][][]int64{}
	for all := range wordGraphs() {
		shape := [2]int64{all.letters, int64(len(all.words[0]))}
		for j := range all.letters {
			toExtreme[shape] = append(toExtreme[shape], all.distancesToExtreme(j))
		}
	}
	kinds := map[[3]int64]int64{}
	for p := range wordPairs() {
		if slices.Equal(p.a, p.b) {
			continue
		}
		want := numbersBySearch(p, toExtreme)
		checkNumbers(t, p, want)
		kinds[[3]int64{p.k, min(want.straight-want.distance, 1), want.ways}]++
	}
	for k := int64(3); k <= impl.MaxLetters; k++ {
		for _, kind := range [][3]int64{{k, 0, 1}, {k, 0, 2}, {k, 1, 1}} {
			if kinds[kind] == 0 {
				t.Errorf("no pair of words of %d letters of the kind %v", k, kind)
			}
		}
	}
}

// TestWordDistancesAndWaysBySearch searches in the whole graphs.
func TestWordDistancesAndWaysBySearch(t *testing.T) {
	for all := range wordGraphs() {
		for i := range all.someWords() {
			distances, ways := search(all.neighbours, i)
			a := all.words[i]
			for j, b := range all.words {
				distance, code := impl.WordDistance(all.letters, a, b)
				if distance != distances[j] || code != impl.ErrNone {
					t.Fatalf("WordDistance(%d, %v, %v) = %d, %d, want %d", all.letters, a, b, distance, code, distances[j])
				}
				number, code := impl.CountWordWays(all.letters, a, b)
				if number != ways[j] || code != impl.ErrNone {
					t.Fatalf("CountWordWays(%d, %v, %v) = %d, %d, want %d", all.letters, a, b, number, code, ways[j])
				}
			}
		}
	}
}

// checkEqualWords fails if a function of two equal words does not return what the document names.
func checkEqualWords(t *testing.T, k int64, word []int64) {
	t.Helper()
	same := slices.Clone(word)
	if distance, code := impl.WordDistance(k, word, same); distance != 0 || code != impl.ErrNone {
		t.Errorf("WordDistance(%d, %v, the same) = %d, %d", k, word, distance, code)
	}
	if ways, code := impl.CountWordWays(k, word, same); ways != 1 || code != impl.ErrNone {
		t.Errorf("CountWordWays(%d, %v, the same) = %d, %d", k, word, ways, code)
	}
	if number, code := impl.StraightNumber(k, word, same); number != 0 || code != impl.ErrState {
		t.Errorf("StraightNumber(%d, %v, the same) = %d, %d", k, word, number, code)
	}
	for c := range k {
		if number, code := impl.DetourNumber(k, word, same, c); number != 0 || code != impl.ErrState {
			t.Errorf("DetourNumber(%d, %v, the same, %d) = %d, %d", k, word, c, number, code)
		}
	}
}

func TestEqualWords(t *testing.T) {
	for k, n := range shapes() {
		for _, word := range wordsOf(k, n) {
			checkEqualWords(t, k, word)
		}
		checkEqualWords(t, k, []int64{})
	}
	if distance, code := impl.WordDistance(4, nil, []int64{}); distance != 0 || code != impl.ErrNone {
		t.Errorf("WordDistance(4, nil, empty) = %d, %d", distance, code)
	}
}
