package tests

import (
	"slices"
	"strings"
	"testing"

	"loop.example/g01321/impl"
)

// TestIsRules has all arrays of the numbers -1, 0, 1 and 2.
func TestIsRules(t *testing.T) {
	count := 0
	for code := range 1 << 18 {
		var r impl.Rules
		want := true
		for place := range 9 {
			number := int64(code>>(2*place)&3) - 1
			r[place/3][place%3] = number
			if number < 0 || number > 1 || place/3 == place%3 && number != 0 {
				want = false
			}
		}
		if impl.IsRules(r) != want {
			t.Fatalf("IsRules(%v) = %v", r, !want)
		}
		if want {
			count++
		}
	}
	if count != 64 || len(allRules()) != count {
		t.Errorf("%d rules, %d in the list", count, len(allRules()))
	}
}

func TestIsRulesOfOddNumbers(t *testing.T) {
	for _, r := range noRules() {
		if impl.IsRules(r) {
			t.Errorf("IsRules(%v) = true", r)
		}
	}
}

func TestNamedRules(t *testing.T) {
	if len(namedRules()) != 5 {
		t.Fatalf("%d names", len(namedRules()))
	}
	for name, want := range namedRules() {
		if r, code := impl.NamedRules(name); r != want || code != impl.ErrNone {
			t.Errorf("NamedRules(%q) = %v, %d, want %v", name, r, code, want)
		}
	}
}

func TestNamedRulesByHand(t *testing.T) {
	wants := map[string]impl.Rules{
		"all":    {{0, 1, 1}, {1, 0, 1}, {1, 1, 0}},
		"cyclic": {{0, 1, 0}, {0, 0, 1}, {1, 0, 0}},
		"linear": {{0, 1, 0}, {1, 0, 1}, {0, 1, 0}},
		"plus":   {{0, 1, 0}, {1, 0, 1}, {1, 0, 0}},
		"near":   {{0, 1, 0}, {1, 0, 1}, {1, 1, 0}},
	}
	for name, want := range wants {
		if r, code := impl.NamedRules(name); r != want || code != impl.ErrNone {
			t.Errorf("NamedRules(%q) = %v, %d, want %v", name, r, code, want)
		}
	}
}

// TestNamesOfNoRules has the empty name, parts of names, and names with something more.
func TestNamesOfNoRules(t *testing.T) {
	names := []string{"", " ", "none", "near all", "strong", "cycle", "lin", "allall", "0", "\x00"}
	for name := range namedRules() {
		names = append(names, strings.ToUpper(name), strings.ToUpper(name[:1])+name[1:], name[1:], name[:len(name)-1])
		names = append(names, name+" ", " "+name, name+"\n", name+"\x00", "`"+name+"`")
	}
	for _, name := range names {
		if r, code := impl.NamedRules(name); r != (impl.Rules{}) || code != impl.ErrNotFound {
			t.Errorf("NamedRules(%q) = %v, %d", name, r, code)
		}
	}
}

func TestAreStrong(t *testing.T) {
	count := 0
	for _, r := range allRules() {
		want := isStrong(r)
		if yes, code := impl.AreStrong(r); yes != want || code != impl.ErrNone {
			t.Errorf("AreStrong(%v) = %v, %d", r, yes, code)
		}
		if want {
			count++
		}
	}
	if count != 18 {
		t.Errorf("%d strong rules", count)
	}
}

// TestAreStrongByHand has rules in which one peg can only be left, or only be reached, or neither.
func TestAreStrongByHand(t *testing.T) {
	for name, r := range namedRules() {
		if yes, code := impl.AreStrong(r); !yes || code != impl.ErrNone {
			t.Errorf("AreStrong of %s = %v, %d", name, yes, code)
		}
	}
	weak := []impl.Rules{
		{},
		{{0, 1, 0}},
		{{0, 1, 0}, {1, 0, 0}},
		{{0, 1, 0}, {0, 0, 1}},
		{{0, 1, 1}, {0, 0, 1}, {0, 1, 0}},
		{{0, 0, 0}, {1, 0, 1}, {1, 1, 0}},
		{{0, 1, 1}, {1, 0, 1}, {0, 0, 0}},
		{{0, 1, 0}, {1, 0, 0}, {1, 1, 0}},
	}
	for _, r := range weak {
		if yes, code := impl.AreStrong(r); yes || code != impl.ErrNone {
			t.Errorf("AreStrong(%v) = %v, %d", r, yes, code)
		}
	}
}

func TestTurnRules(t *testing.T) {
	for _, r := range allRules() {
		var want impl.Rules
		for i := range r {
			for j := range r[i] {
				want[i][j] = r[j][i]
			}
		}
		if turned, code := impl.TurnRules(r); turned != want || code != impl.ErrNone {
			t.Errorf("TurnRules(%v) = %v, %d, want %v", r, turned, code, want)
		}
	}
}

func TestTurnRulesByHand(t *testing.T) {
	wants := map[string]impl.Rules{
		"all":    {{0, 1, 1}, {1, 0, 1}, {1, 1, 0}},
		"cyclic": {{0, 0, 1}, {1, 0, 0}, {0, 1, 0}},
		"linear": {{0, 1, 0}, {1, 0, 1}, {0, 1, 0}},
		"plus":   {{0, 1, 1}, {1, 0, 0}, {0, 1, 0}},
		"near":   {{0, 1, 1}, {1, 0, 1}, {0, 1, 0}},
	}
	for name, want := range wants {
		if r, code := impl.TurnRules(namedRules()[name]); r != want || code != impl.ErrNone {
			t.Errorf("TurnRules of %s = %v, %d, want %v", name, r, code, want)
		}
	}
}

func TestRenameRules(t *testing.T) {
	for _, r := range allRules() {
		for _, list := range permutations(3) {
			var pairs [][2]int64
			for _, pair := range pegPairs() {
				if r[pair[0]][pair[1]] == 1 {
					pairs = append(pairs, [2]int64{list[pair[0]], list[pair[1]]})
				}
			}
			want := rulesWith(pairs...)
			if renamed, code := impl.RenameRules(r, list); renamed != want || code != impl.ErrNone {
				t.Errorf("RenameRules(%v, %v) = %v, %d, want %v", r, list, renamed, code, want)
			}
		}
	}
}

// TestRenameRulesByHand has a list that is not its own inverse: the direction 0, 1 becomes 1, 2.
func TestRenameRulesByHand(t *testing.T) {
	cases := []struct {
		r    impl.Rules
		list []int64
		want impl.Rules
	}{
		{impl.Rules{}, []int64{2, 1, 0}, impl.Rules{}},
		{impl.Rules{{0, 1, 0}}, []int64{0, 1, 2}, impl.Rules{{0, 1, 0}}},
		{impl.Rules{{0, 1, 0}}, []int64{1, 2, 0}, impl.Rules{{}, {0, 0, 1}}},
		{impl.Rules{{0, 1, 0}}, []int64{2, 0, 1}, impl.Rules{{}, {}, {1, 0, 0}}},
		{impl.Rules{{0, 1, 0}, {0, 0, 1}}, []int64{1, 2, 0}, impl.Rules{{}, {0, 0, 1}, {1, 0, 0}}},
		{namedRules()["linear"], []int64{1, 0, 2}, impl.Rules{{0, 1, 1}, {1, 0, 0}, {1, 0, 0}}},
		{namedRules()["cyclic"], []int64{1, 2, 0}, namedRules()["cyclic"]},
		{namedRules()["cyclic"], []int64{0, 2, 1}, impl.Rules{{0, 0, 1}, {1, 0, 0}, {0, 1, 0}}},
		{namedRules()["near"], []int64{1, 2, 0}, impl.Rules{{0, 1, 1}, {0, 0, 1}, {1, 1, 0}}},
	}
	for _, c := range cases {
		if r, code := impl.RenameRules(c.r, c.list); r != c.want || code != impl.ErrNone {
			t.Errorf("RenameRules(%v, %v) = %v, %d, want %v", c.r, c.list, r, code, c.want)
		}
	}
}

// TestRenamedByShortLists has all lists of at most four numbers in -1..3.
func TestRenamedByShortLists(t *testing.T) {
	for n := range int64(5) {
		for _, list := range wordsOf(5, n) {
			for i := range list {
				list[i]--
			}
			isList := n == 3 && slices.Equal(slices.Sorted(slices.Values(list)), upTo(3))
			r, code := impl.RenameRules(namedRules()["all"], list)
			if isList && code != impl.ErrNone || !isList && (r != impl.Rules{} || code != impl.ErrRange) {
				t.Errorf("RenameRules(.., %v) = %v, %d", list, r, code)
			}
		}
	}
}
