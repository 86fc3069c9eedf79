package tests

import (
	"slices"
	"testing"

	"loop.example/g01321/impl"
)

// checkTowerNumber fails if NumberByRules does not return a number.
func checkTowerNumber(t *testing.T, r impl.Rules, n, i, j, want int64) {
	t.Helper()
	if number, code := impl.NumberByRules(r, n, i, j); number != want || code != impl.ErrNone {
		t.Errorf("NumberByRules(%v, %d, %d, %d) = %d, %d, want %d", r, n, i, j, number, code, want)
	}
}

func TestNumberByRules(t *testing.T) {
	for _, r := range strongRules() {
		for n := range int64(impl.MaxDiscs + 1) {
			for _, pair := range pegPairs() {
				checkTowerNumber(t, r, n, pair[0], pair[1], numberByRecursion(r, n, pair[0], pair[1]))
			}
		}
	}
}

// TestNumberByRulesByHand has the numbers of 0 to 8 discs.
func TestNumberByRulesByHand(t *testing.T) {
	cases := []struct {
		name string
		i, j int64
		want []int64
	}{
		{"all", 0, 1, []int64{0, 1, 3, 7, 15, 31, 63, 127, 255}},
		{"all", 2, 0, []int64{0, 1, 3, 7, 15, 31, 63, 127, 255}},
		{"linear", 0, 2, []int64{0, 2, 8, 26, 80, 242, 728, 2186, 6560}},
		{"linear", 2, 0, []int64{0, 2, 8, 26, 80, 242, 728, 2186, 6560}},
		{"linear", 1, 2, []int64{0, 1, 4, 13, 40, 121, 364, 1093, 3280}},
		{"linear", 0, 1, []int64{0, 1, 4, 13, 40, 121, 364, 1093, 3280}},
		{"cyclic", 0, 1, []int64{0, 1, 5, 15, 43, 119, 327, 895, 2447}},
		{"cyclic", 2, 0, []int64{0, 1, 5, 15, 43, 119, 327, 895, 2447}},
		{"cyclic", 0, 2, []int64{0, 2, 7, 21, 59, 163, 447, 1223, 3343}},
		{"plus", 0, 1, []int64{0, 1, 5, 15}},
		{"plus", 1, 0, []int64{0, 1, 3, 9}},
		{"plus", 2, 1, []int64{0, 2, 7, 20}},
		{"near", 0, 2, []int64{0, 2, 7, 19}},
		{"near", 2, 0, []int64{0, 1, 3, 7}},
		{"near", 1, 2, []int64{0, 1, 4, 11}},
	}
	for _, c := range cases {
		for n, want := range c.want {
			checkTowerNumber(t, namedRules()[c.name], int64(n), c.i, c.j, want)
		}
	}
}

func TestTableByRules(t *testing.T) {
	for _, r := range strongRules() {
		for n := range int64(impl.MaxDiscs + 1) {
			want := [][]int64{{0, 0, 0}, {0, 0, 0}, {0, 0, 0}}
			for _, pair := range pegPairs() {
				want[pair[0]][pair[1]] = numberByRecursion(r, n, pair[0], pair[1])
			}
			if rows, code := impl.TableByRules(r, n); !sameLists(rows, want) || code != impl.ErrNone {
				t.Errorf("TableByRules(%v, %d) = %v, %d, want %v", r, n, rows, code, want)
			}
		}
	}
}

func TestTableByRulesByHand(t *testing.T) {
	cases := []struct {
		name string
		n    int64
		want [][]int64
	}{
		{"cyclic", 0, [][]int64{{0, 0, 0}, {0, 0, 0}, {0, 0, 0}}},
		{"all", 1, [][]int64{{0, 1, 1}, {1, 0, 1}, {1, 1, 0}}},
		{"linear", 1, [][]int64{{0, 1, 2}, {1, 0, 1}, {2, 1, 0}}},
		{"cyclic", 2, [][]int64{{0, 5, 7}, {7, 0, 5}, {5, 7, 0}}},
		{"plus", 2, [][]int64{{0, 5, 7}, {3, 0, 4}, {4, 7, 0}}},
		{"near", 2, [][]int64{{0, 4, 7}, {3, 0, 4}, {3, 3, 0}}},
		{"linear", 8, [][]int64{{0, 3280, 6560}, {3280, 0, 3280}, {6560, 3280, 0}}},
	}
	for _, c := range cases {
		if rows, code := impl.TableByRules(namedRules()[c.name], c.n); !sameLists(rows, c.want) || code != impl.ErrNone {
			t.Errorf("TableByRules of %s and %d = %v, %d, want %v", c.name, c.n, rows, code, c.want)
		}
	}
}

func TestLeastByRules(t *testing.T) {
	for _, r := range strongRules() {
		for n := range int64(impl.MaxDiscs + 1) {
			for _, pair := range pegPairs() {
				want := leastByRecursion(r, n, pair[0], pair[1])
				if moves, code := impl.LeastByRules(r, n, pair[0], pair[1]); !slices.Equal(moves, want) || code != impl.ErrNone {
					t.Errorf("LeastByRules(%v, %d, %v) has %d moves, %d, want %d", r, n, pair, len(moves), code, len(want))
				}
			}
		}
	}
}

func TestLeastByRulesByHand(t *testing.T) {
	cases := []struct {
		name    string
		n, i, j int64
		want    []impl.Move
	}{
		{"all", 0, 0, 1, nil},
		{"cyclic", 0, 2, 1, nil},
		{"all", 1, 2, 1, wayOfTexts("0:2>1")},
		{"linear", 1, 2, 0, wayOfTexts("0:2>1", "0:1>0")},
		{"near", 1, 0, 2, wayOfTexts("0:0>1", "0:1>2")},
		{"near", 1, 2, 0, wayOfTexts("0:2>0")},
		{"plus", 1, 1, 0, wayOfTexts("0:1>0")},
		{"all", 2, 0, 2, wayOfTexts("0:0>1", "1:0>2", "0:1>2")},
		{"plus", 2, 1, 0, wayOfTexts("0:1>2", "1:1>0", "0:2>0")},
		{"linear", 2, 0, 1, wayOfTexts("0:0>1", "0:1>2", "1:0>1", "0:2>1")},
		{"linear", 2, 0, 2, wayOfTexts("0:0>1", "0:1>2", "1:0>1", "0:2>1", "0:1>0", "1:1>2", "0:0>1", "0:1>2")},
		{"cyclic", 2, 0, 1, wayOfTexts("0:0>1", "0:1>2", "1:0>1", "0:2>0", "0:0>1")},
		{"cyclic", 2, 0, 2, wayOfTexts("0:0>1", "0:1>2", "1:0>1", "0:2>0", "1:1>2", "0:0>1", "0:1>2")},
		{"all", 3, 0, 1, wayOfTexts("0:0>1", "1:0>2", "0:1>2", "2:0>1", "0:2>0", "1:2>1", "0:0>1")},
	}
	for _, c := range cases {
		if moves, code := impl.LeastByRules(namedRules()[c.name], c.n, c.i, c.j); !slices.Equal(moves, c.want) || code != impl.ErrNone {
			t.Errorf("LeastByRules of %s, %d, %d and %d = %v, %d, want %v", c.name, c.n, c.i, c.j, moves, code, c.want)
		}
	}
}

// TestTheLongestLeastMoves has just one move less than a run may have.
func TestTheLongestLeastMoves(t *testing.T) {
	longest := 0
	for _, r := range strongRules() {
		for _, pair := range pegPairs() {
			moves, code := impl.LeastByRules(r, impl.MaxDiscs, pair[0], pair[1])
			wantCode(t, "LeastByRules", code, impl.ErrNone)
			longest = max(longest, len(moves))
		}
	}
	if longest != impl.MaxStates-1 {
		t.Errorf("the longest ones are %d moves", longest)
	}
}
