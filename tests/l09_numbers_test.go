package tests

import (
	"slices"
	"strconv"
	"strings"
	"testing"

	"loop.example/g01321/impl"
)

// Totals of perfect states, digit numbers, states at distances, grand totals, shares and ruler lists.

// numberCall calls a function that takes one number and returns one.
type numberCall func(n int64) (int64, int64)

// checkNumber fails if a call does not return the wanted number.
func checkNumber(t *testing.T, name string, call numberCall, n, want int64) {
	t.Helper()
	if number, code := call(n); number != want || code != impl.ErrNone {
		t.Errorf("%s(%d) = %d, %d, want %d", name, n, number, code, want)
	}
}

// checkGrandAverage fails if a grand average has not the wanted lowest terms.
func checkGrandAverage(t *testing.T, n int64, want terms) {
	t.Helper()
	if p, q, code := impl.GrandAverage(n); (terms{p, q}) != want || code != impl.ErrNone {
		t.Errorf("GrandAverage(%d) = %d, %d, %d, want %v", n, p, q, code, want)
	}
}

func TestMaxSearched(t *testing.T) {
	if impl.MaxSearched != 5 {
		t.Errorf("MaxSearched is %d, want 5", impl.MaxSearched)
	}
}

func TestTotalToPerfectByHand(t *testing.T) {
	for n, want := range []int64{0, 2, 18, 126, 810, 5022, 30618, 185166, 1115370} {
		checkNumber(t, "TotalToPerfect", impl.TotalToPerfect, int64(n), want)
	}
}

func TestTotalToPerfect(t *testing.T) {
	for n := range int64(impl.MaxDiscs + 1) {
		all := towersOf(3, n)
		for a := range int64(3) {
			distances, _ := all.search(all.perfect(a))
			checkNumber(t, "TotalToPerfect", impl.TotalToPerfect, n, sumOf(distances))
		}
	}
}

func TestDigitNumberByHand(t *testing.T) {
	cases := map[int64]int64{
		0: 0, 1: 1, 2: 1, 3: 2, 4: 1, 7: 3, 8: 1, 13: 3, 255: 8, 256: 1, 257: 2,
		1<<29 - 1: 29, 1 << 29: 1, 1<<29 + 1: 2, 1<<29 + 1<<28 - 1: 29,
		999999999: 21, 1000000000: 13,
	}
	for d, want := range cases {
		checkNumber(t, "DigitNumber", impl.DigitNumber, d, want)
	}
}

// TestDigitNumber counts digits in texts: of the least numbers, of the greatest ones, and of those
// around the powers of 2.
func TestDigitNumber(t *testing.T) {
	check := func(d int64) {
		t.Helper()
		want := int64(strings.Count(strconv.FormatInt(d, 2), "1"))
		checkNumber(t, "DigitNumber", impl.DigitNumber, d, want)
	}
	for d := range int64(3000) {
		check(d)
		check(1000000000 - d)
		check(d * 333333)
	}
	for power := int64(4); power < 1000000000; power *= 2 {
		check(power - 1)
		check(power)
		check(power + 1)
	}
}

func TestStatesAtDistanceByHand(t *testing.T) {
	cases := []struct{ n, d, want int64 }{
		{0, 0, 1},
		{1, 0, 1}, {1, 1, 2},
		{2, 0, 1}, {2, 1, 2}, {2, 2, 2}, {2, 3, 4},
		{3, 0, 1}, {3, 4, 2}, {3, 5, 4}, {3, 7, 8},
		{8, 0, 1}, {8, 1, 2}, {8, 128, 2}, {8, 170, 16}, {8, 254, 128}, {8, 255, 256},
	}
	for _, c := range cases {
		checkNumberOf(t, "StatesAtDistance", impl.StatesAtDistance, c.n, c.d, c.want)
	}
}

// TestStatesAtDistance has all distances from all perfect states.
func TestStatesAtDistance(t *testing.T) {
	for n := range int64(impl.MaxDiscs + 1) {
		all := towersOf(3, n)
		for a := range int64(3) {
			distances, _ := all.search(all.perfect(a))
			levels := levelsOf(distances)
			if len(levels) != 1<<n {
				t.Fatalf("%d discs have the distances 0 to %d", n, len(levels)-1)
			}
			for d, want := range levels {
				checkNumberOf(t, "StatesAtDistance", impl.StatesAtDistance, n, int64(d), want)
			}
		}
	}
}

func TestGrandTotalsByHand(t *testing.T) {
	cases := []struct {
		total   int64
		average terms
	}{
		{0, terms{0, 1}},
		{6, terms{2, 3}},
		{144, terms{16, 9}},
		{2838, terms{946, 243}},
		{53160, terms{17720, 2187}},
		{975678, terms{325226, 19683}},
	}
	for n, c := range cases {
		checkNumber(t, "GrandTotal", impl.GrandTotal, int64(n), c.total)
		checkGrandAverage(t, int64(n), c.average)
	}
}

func TestGrandTotals(t *testing.T) {
	for n := range int64(impl.MaxSearched + 1) {
		distances := allDistances(n)
		checkNumber(t, "GrandTotal", impl.GrandTotal, n, sumOf(distances))
		checkGrandAverage(t, n, termsOf(averageOf(distances)))
	}
}

func TestShareOfDiscByHand(t *testing.T) {
	cases := []struct{ n, d, want int64 }{
		{1, 0, 1},
		{2, 0, 2}, {2, 1, 1},
		{3, 0, 4}, {3, 1, 2}, {3, 2, 1},
		{5, 1, 8},
		{8, 0, 128}, {8, 1, 64}, {8, 6, 2}, {8, 7, 1},
	}
	for _, c := range cases {
		checkNumberOf(t, "ShareOfDisc", impl.ShareOfDisc, c.n, c.d, c.want)
	}
}

// TestShareOfDisc counts the moves of all discs in the ways between all perfect states.
func TestShareOfDisc(t *testing.T) {
	for n := range int64(impl.MaxDiscs + 1) {
		for _, pair := range pegPairs() {
			way := wayByRecursion(tower(pair[0], n), pair[1])
			for d := range n {
				checkNumberOf(t, "ShareOfDisc", impl.ShareOfDisc, n, d, timesOf(way, d))
			}
		}
	}
}

func TestRulerListByHand(t *testing.T) {
	lists := [][]int64{
		nil,
		{0},
		{0, 1, 0},
		{0, 1, 0, 2, 0, 1, 0},
		{0, 1, 0, 2, 0, 1, 0, 3, 0, 1, 0, 2, 0, 1, 0},
	}
	for n, want := range lists {
		if list, code := impl.RulerList(int64(n)); !slices.Equal(list, want) || code != impl.ErrNone {
			t.Errorf("RulerList(%d) = %v, %d, want %v", n, list, code, want)
		}
	}
}

func TestRulerList(t *testing.T) {
	for n := range int64(impl.MaxDiscs + 1) {
		var want []int64
		for number := int64(1); number < 1<<n; number++ {
			want = append(want, halvings(number))
		}
		if list, code := impl.RulerList(n); !slices.Equal(list, want) || code != impl.ErrNone {
			t.Errorf("RulerList(%d) = %v, %d, want %v", n, list, code, want)
		}
	}
}
