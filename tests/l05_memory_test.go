package tests

import (
	"slices"
	"testing"

	"loop.example/g01321/impl"
)

// ringArguments returns pairs of lists: equal words, ones whose ways go up and down, ones of
// different lengths, and ones that are no words.
func ringArguments() [][2][]int64 {
	return [][2][]int64{
		{nil, nil},
		{{0}, {1}},
		{{1, 1, 1}, {0, 0, 0}},
		{{0, 0, 0}, {1, 1, 1}},
		{{1, 0, 1}, {1, 0, 1}},
		{{0, 1}, {0, 1, 1}},
		{{0, 2}, {1, 1}},
		{{0, 0, 1, 0, 1, 1, 0, 0}, {1, 1, 0, 0, 0, 1, 1, 0}},
		{tower(1, 16), lastAloneOn(16)},
		{tower(1, 17), tower(0, 17)},
	}
}

// TestRingsNotModified calls each function of chapter 5 that takes a list, with spare capacity
// behind it.
func TestRingsNotModified(t *testing.T) {
	for _, p := range ringArguments() {
		a, b := roomy(p[0]...), roomy(p[1]...)
		for _, calls := range []map[string]ringCall{oneRingsCalls(), twoRingsCalls()} {
			for name, call := range calls {
				for i := range int64(len(a) + 2) {
					call(a, b, i)
					call(b, a, i)
				}
				checkRoomy(t, name, a, p[0]...)
				checkRoomy(t, name, b, p[1]...)
			}
		}
		impl.IsRings(a)
		checkRoomy(t, "IsRings", a, p[0]...)
	}
}

// TestRingsInOneList has two words that are parts of one list, and one word twice.
func TestRingsInOneList(t *testing.T) {
	list := []int64{1, 1, 1, 0, 0, 1}
	before := slices.Clone(list)
	parts := [][2][]int64{{list[:3], list[3:]}, {list[3:], list[:3]}, {list[1:4], list[2:5]}, {list, list}}
	for _, p := range parts {
		want, _ := impl.WayOfRings(slices.Clone(p[0]), slices.Clone(p[1]))
		way, code := impl.WayOfRings(p[0], p[1])
		distance, distanceCode := impl.DistanceOfRings(p[0], p[1])
		if !slices.Equal(way, want) || code != impl.ErrNone || distance != int64(len(want)) || distanceCode != impl.ErrNone {
			t.Errorf("from %v to %v: the way %v, %d, the distance %d, %d, want %v", p[0], p[1], way, code, distance, distanceCode, want)
		}
		if !slices.Equal(list, before) {
			t.Fatalf("the list became %v, was %v", list, before)
		}
	}
}

// ringLists returns calls of the functions of chapter 5 that return lists, of two words with equally
// many rings and the text and the rank of one.
func ringLists(a, b []int64) map[string]func() []int64 {
	n := int64(len(a))
	text, _ := impl.RingsText(a)
	rank, _ := impl.RankOfRings(a)
	return map[string]func() []int64{
		"RingsThatChange": func() []int64 { rings, _ := impl.RingsThatChange(a); return rings },
		"ChangeRing":      func() []int64 { word, _ := impl.ChangeRing(a, 0); return word },
		"RingsOfRank":     func() []int64 { word, _ := impl.RingsOfRank(n, rank); return word },
		"WayOfRings":      func() []int64 { way, _ := impl.WayOfRings(a, b); return way },
		"DiscsOfWay":      func() []int64 { discs, _ := impl.DiscsOfWay(min(n, impl.MaxDiscs)); return discs },
		"OppositeRings":   func() []int64 { word, _ := impl.OppositeRings(a); return word },
		"ParseRings":      func() []int64 { word, _ := impl.ParseRings(text); return word },
	}
}

// TestRingListsShareNoMemory overwrites each result, with its spare capacity, and looks at the
// arguments and at other results.
func TestRingListsShareNoMemory(t *testing.T) {
	for _, p := range ringArguments() {
		a, b := roomy(p[0]...), roomy(p[1]...)
		for name, call := range ringLists(a, b) {
			got, other := call(), call()
			want := slices.Clone(got)
			spoil(got)
			checkRoomy(t, name, a, p[0]...)
			checkRoomy(t, name, b, p[1]...)
			if again := call(); !slices.Equal(other, want) || !slices.Equal(again, want) {
				t.Errorf("%s of %v and %v: %v, then %v and %v", name, a, b, want, other, again)
			}
		}
	}
}

// TestArgumentsOfRingsNotKept overwrites the arguments, and looks at the results.
func TestArgumentsOfRingsNotKept(t *testing.T) {
	for _, p := range ringArguments() {
		for name := range ringLists(nil, nil) {
			a, b := roomy(p[0]...), roomy(p[1]...)
			got := ringLists(a, b)[name]()
			want := slices.Clone(got)
			spoil(a)
			spoil(b)
			if !slices.Equal(got, want) {
				t.Errorf("%s of %v and %v: %v became %v", name, p[0], p[1], want, got)
			}
		}
	}
}
