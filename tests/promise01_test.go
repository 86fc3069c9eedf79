package tests

import (
	"testing"

	"loop.example/g01321/impl"
)

// Promise 1, and the guarantee of chapter 1.

func TestPromise1RanksLeadBackToStates(t *testing.T) {
	for _, x := range allStates() {
		r, code := impl.RankOf(x)
		wantCode(t, "RankOf", code, impl.ErrNone)
		y, code := impl.StateOfRank(x.Pegs, int64(len(x.Discs)), r)
		if !sameState(x, y) || code != impl.ErrNone {
			t.Fatalf("the rank %d of %v leads to %v, %d", r, x, y, code)
		}
	}
}

func TestPromise1StatesLeadBackToRanks(t *testing.T) {
	for k, n := range shapes() {
		for r := int64(0); ; r++ {
			x, code := impl.StateOfRank(k, n, r)
			if code == impl.ErrRange && r > 0 {
				break
			}
			back, backCode := impl.RankOf(x)
			if code != impl.ErrNone || back != r || backCode != impl.ErrNone {
				t.Fatalf("StateOfRank(%d, %d, %d) = %v, %d, with the rank %d, %d", k, n, r, x, code, back, backCode)
			}
		}
	}
}

func TestPromise1MovesCanBeTakenBack(t *testing.T) {
	for _, x := range allStates() {
		moves, code := impl.LegalMoves(x)
		wantCode(t, "LegalMoves", code, impl.ErrNone)
		for _, m := range moves {
			back := impl.Move{Disc: m.Disc, From: m.To, To: m.From}
			y, code := impl.AfterMove(x, m)
			wantCode(t, "AfterMove", code, impl.ErrNone)
			z, code := impl.AfterMove(y, back)
			if !sameState(x, z) || code != impl.ErrNone {
				t.Fatalf("%v after %v and back is %v, %d", x, m, z, code)
			}
			if between, code := impl.MoveBetween(y, x); between != back || code != impl.ErrNone {
				t.Fatalf("MoveBetween(%v, %v) = %v, %d", y, x, between, code)
			}
			if z, code := impl.RunMoves(x, []impl.Move{m, back}); !sameState(x, z) || code != impl.ErrNone {
				t.Fatalf("the run of %v and back from %v ends at %v, %d", m, x, z, code)
			}
		}
	}
}

func TestPromise1TextsLeadBackToStates(t *testing.T) {
	seen := map[string]bool{}
	for _, x := range allStates() {
		text, code := impl.StateText(x)
		wantCode(t, "StateText", code, impl.ErrNone)
		if y, code := impl.ParseState(text); !sameState(x, y) || code != impl.ErrNone {
			t.Fatalf("the text %q of %v leads to %v, %d", text, x, y, code)
		}
		if seen[text] {
			t.Fatalf("two states have the text %q", text)
		}
		seen[text] = true
	}
}

func TestPromise1TextsLeadBackToMoves(t *testing.T) {
	seen := map[string]bool{}
	for disc := range int64(8) {
		for from := range int64(5) {
			for to := range int64(5) {
				m := move(disc, from, to)
				text, code := impl.MoveText(m)
				wantCode(t, "MoveText", code, impl.ErrNone)
				if back, code := impl.ParseMove(text); back != m || code != impl.ErrNone {
					t.Fatalf("the text %q of %v leads to %v, %d", text, m, back, code)
				}
				if seen[text] {
					t.Fatalf("two moves have the text %q", text)
				}
				seen[text] = true
			}
		}
	}
}

func TestNeighboursHaveTheStateAsNeighbour(t *testing.T) {
	for _, x := range allStates() {
		neighbours, code := impl.NeighboursOf(x)
		wantCode(t, "NeighboursOf", code, impl.ErrNone)
		for _, y := range neighbours {
			back, code := impl.NeighboursOf(y)
			wantCode(t, "NeighboursOf", code, impl.ErrNone)
			found := 0
			for _, z := range back {
				if sameState(x, z) {
					found++
				}
			}
			if found != 1 {
				t.Fatalf("%v is %d times among the neighbours of its neighbour %v", x, found, y)
			}
		}
	}
}

func TestRenamedStatesHaveAsManyLegalMoves(t *testing.T) {
	lists := map[int64][][]int64{
		3: {{0, 1, 2}, {0, 2, 1}, {1, 0, 2}, {1, 2, 0}, {2, 0, 1}, {2, 1, 0}},
		4: {{3, 0, 1, 2}, {1, 0, 3, 2}, {0, 3, 2, 1}},
		5: {{4, 3, 2, 1, 0}, {1, 2, 3, 4, 0}, {0, 1, 2, 4, 3}},
	}
	for _, x := range allStates() {
		moves, _ := impl.LegalMoves(x)
		for _, list := range lists[x.Pegs] {
			y, code := impl.RenamePegs(x, list)
			wantCode(t, "RenamePegs", code, impl.ErrNone)
			if renamed, code := impl.LegalMoves(y); len(renamed) != len(moves) || code != impl.ErrNone {
				t.Fatalf("%v has %d legal moves, renamed by %v it has %d", x, len(moves), list, len(renamed))
			}
		}
	}
}
