package tests

import (
	"iter"
	"math"
	"slices"

	"loop.example/g01321/impl"
)

// References for chapter 8, which do not call the program.

// pegsAndDiscs is a number of pegs and one of discs.
type pegsAndDiscs struct {
	p, n int64
}

// presumedSizes ranges over all numbers of pegs and discs that have presumed numbers.
func presumedSizes() iter.Seq2[int64, int64] {
	return func(yield func(int64, int64) bool) {
		for p := int64(3); p <= 10; p++ {
			for n := range int64(61) {
				if !yield(p, n) {
					return
				}
			}
		}
	}
}

// listSizes ranges over all numbers of pegs and discs that have presumed lists.
func listSizes() iter.Seq2[int64, int64] {
	return func(yield func(int64, int64) bool) {
		for p := int64(3); p <= 5; p++ {
			for n := range int64(9) {
				if !yield(p, n) {
					return
				}
			}
		}
	}
}

// presumedNumbers returns all presumed numbers by the document's recursion.
func presumedNumbers() map[pegsAndDiscs]int64 {
	numbers := map[pegsAndDiscs]int64{}
	for p, n := range presumedSizes() {
		number := int64(math.MaxInt64)
		switch {
		case p == 3:
			number = int64(1)<<n - 1
		case n <= 1:
			number = n
		}
		for k := int64(1); p > 3 && k < n; k++ {
			number = min(number, splitNumber(numbers, p, n, k))
		}
		numbers[pegsAndDiscs{p, n}] = number
	}
	return numbers
}

// splitNumber returns the number 2 F(p, k) + F(p - 1, n - k).
func splitNumber(numbers map[pegsAndDiscs]int64, p, n, k int64) int64 {
	return 2*numbers[pegsAndDiscs{p, k}] + numbers[pegsAndDiscs{p - 1, n - k}]
}

// splitsOf returns all splits of p of at least 4 and n of at least 2.
func splitsOf(numbers map[pegsAndDiscs]int64, p, n int64) []int64 {
	var splits []int64
	for k := int64(1); k < n; k++ {
		if splitNumber(numbers, p, n, k) == numbers[pegsAndDiscs{p, n}] {
			splits = append(splits, k)
		}
	}
	return splits
}

// partsOfPresumed returns the parts of p and n by the document's recursion.
func partsOfPresumed(numbers map[pegsAndDiscs]int64, p, n int64) []int64 {
	if p == 3 || n <= 1 {
		return []int64{n}
	}
	k := splitsOf(numbers, p, n)[0]
	return append([]int64{k}, partsOfPresumed(numbers, p-1, n-k)...)
}

// waysToChooseByAdding returns the numbers of ways to choose some of 0, 1, .., 70 things, each row by
// adding up the numbers of the row before it.
func waysToChooseByAdding() [][]int64 {
	rows := [][]int64{{1}}
	for things := 1; things <= 70; things++ {
		row := slices.Repeat([]int64{1}, things+1)
		for some := 1; some < things; some++ {
			// Numbers far beyond 60 discs are cut off, so that no sum overflows.
			row[some] = min(rows[things-1][some-1]+rows[things-1][some], 1<<40)
		}
		rows = append(rows, row)
	}
	return rows
}

// formulaByCounting returns the formula of p and n. For each s it counts the numbers i that have this
// s.
func formulaByCounting(p, n int64) int64 {
	rows := waysToChooseByAdding()
	sum, before := int64(0), int64(0)
	for s := int64(0); before < n; s++ {
		to := min(rows[s+p-2][p-2], n)
		sum += (to - before) << s
		before = to
	}
	return sum
}

// pile is a part of a tower that has to be led from a peg to another one: m discs from the disc a on,
// with the pegs that may be used.
type pile struct {
	a, m, u, v int64
	pegs       map[int64]bool
}

// without returns the pegs without one of them.
func without(pegs map[int64]bool, peg int64) map[int64]bool {
	left := map[int64]bool{}
	for other := range pegs {
		if other != peg {
			left[other] = true
		}
	}
	return left
}

// spareOf returns the least of the pegs of a pile other than its two.
func (x pile) spareOf() int64 {
	for peg := range int64(5) {
		if x.pegs[peg] && peg != x.u && peg != x.v {
			return peg
		}
	}
	return -1
}

// listOfPresumed returns the presumed list of p and n. It keeps the piles that are still to be led, the
// next one at the end.
func listOfPresumed(numbers map[pegsAndDiscs]int64, p, n int64) []impl.Move {
	all := map[int64]bool{}
	for peg := range p {
		all[peg] = true
	}
	var moves []impl.Move
	piles := []pile{{a: 0, m: n, u: 0, v: p - 1, pegs: all}}
	for len(piles) > 0 {
		x := piles[len(piles)-1]
		piles = piles[:len(piles)-1]
		w := x.spareOf()
		switch {
		case x.m == 0:
		case x.m == 1:
			moves = append(moves, move(x.a, x.u, x.v))
		case len(x.pegs) == 3:
			greatest := x.a + x.m - 1
			piles = append(piles, pile{x.a, x.m - 1, w, x.v, x.pegs}, pile{greatest, 1, x.u, x.v, x.pegs}, pile{x.a, x.m - 1, x.u, w, x.pegs})
		default:
			k := splitsOf(numbers, int64(len(x.pegs)), x.m)[0]
			piles = append(piles, pile{x.a, k, w, x.v, x.pegs}, pile{x.a + k, x.m - k, x.u, x.v, without(x.pegs, w)}, pile{x.a, k, x.u, w, x.pegs})
		}
	}
	return moves
}

// noPresumedPegs returns numbers of pegs that have no presumed numbers.
func noPresumedPegs() []int64 {
	return append(oddNumbers(), -3, 0, 1, 2, 11, 12, 20, 64, 259, 1<<32+3, 1<<62)
}

// noPresumedDiscs returns numbers of discs that have no presumed numbers.
func noPresumedDiscs() []int64 {
	return append(oddNumbers(), -60, 61, 62, 63, 64, 65, 128, 256, 1<<32+8, 1<<62)
}
