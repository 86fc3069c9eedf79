package impl

import "iter"

const (
	ErrNone = iota
	ErrInvalid
	ErrRange
	ErrLimit
	ErrNotFound
	ErrState
	ErrSyntax
)
const (
	MaxDiscs  = 8
	MaxStates = 6561
)

// The numbers of pegs that a state may have.
const (
	leastPegs = 3
	mostPegs  = 5
)

type State struct {
	Pegs  int64
	Discs []int64
}

type Move struct {
	Disc int64
	From int64
	To   int64
}

// discPegs has the pegs of the discs of a state, and 0 for each disc that the state lacks. A slice
// can neither be compared nor be a key of a map; this array stands for it among states with equal
// numbers of pegs and discs.
type discPegs [MaxDiscs]int64

// pegsOf returns the pegs of the discs of a state.
func pegsOf(x State) discPegs {
	all := make([]int64, MaxDiscs)
	copy(all, x.Discs)
	return discPegs(all)
}

// numberOfStates returns how many states of n discs on k pegs there are, and whether there are any.
func numberOfStates(k int64, n int64) (int64, bool) {
	if k < leastPegs || k > mostPegs || n < 0 || n > MaxDiscs {
		return 0, false
	}
	count := int64(1)
	for range n {
		count *= k
	}
	if count > MaxStates {
		return 0, false
	}
	return count, true
}

// isPeg reports whether a number is one of k pegs.
func isPeg(k int64, peg int64) bool {
	return peg >= 0 && peg < k
}

// copyOfState returns a state with a list of discs of its own.
func copyOfState(x State) State {
	discs := make([]int64, len(x.Discs))
	copy(discs, x.Discs)
	return State{Pegs: x.Pegs, Discs: discs}
}

// perfectState returns the state of n discs on k pegs with all discs on a peg, where there is one.
func perfectState(k int64, n int64, peg int64) State {
	discs := make([]int64, n)
	for d := range discs {
		discs[d] = peg
	}
	return State{Pegs: k, Discs: discs}
}

// rankOf returns the rank of a state.
func rankOf(x State) int64 {
	rank, weight := int64(0), int64(1)
	for _, peg := range x.Discs {
		rank += peg * weight
		weight *= x.Pegs
	}
	return rank
}

// stateOfRank returns the state of n discs on k pegs with a rank, where there is one.
func stateOfRank(k int64, n int64, r int64) State {
	discs := make([]int64, n)
	for d := range discs {
		discs[d] = r % k
		r /= k
	}
	return State{Pegs: k, Discs: discs}
}

// codeOfPair returns the code of the first error of states that must have the same numbers of pegs
// and discs.
func codeOfPair(x State, y State) int64 {
	if !IsState(x) || !IsState(y) {
		return ErrInvalid
	}
	if x.Pegs != y.Pegs || len(x.Discs) != len(y.Discs) {
		return ErrRange
	}
	return ErrNone
}

// IsState reports whether x is a state.
func IsState(x State) bool {
	if _, ok := numberOfStates(x.Pegs, int64(len(x.Discs))); !ok {
		return false
	}
	for _, peg := range x.Discs {
		if !isPeg(x.Pegs, peg) {
			return false
		}
	}
	return true
}

// PerfectState returns the state of n discs on k pegs with all discs on a peg, and ErrNone.
// (ErrInvalid is not returned.) Errors: ErrRange also if there are no such states.
func PerfectState(k int64, n int64, peg int64) (State, int64) {
	if _, ok := numberOfStates(k, n); !ok || !isPeg(k, peg) {
		return State{}, ErrRange
	}
	return perfectState(k, n, peg), ErrNone
}

// IsPerfectState reports whether x is perfect (for no discs it is), and returns ErrNone.
func IsPerfectState(x State) (bool, int64) {
	if !IsState(x) {
		return false, ErrInvalid
	}
	pegs := pegsOf(x)
	for peg := range x.Pegs {
		if pegs == pegsOf(perfectState(x.Pegs, int64(len(x.Discs)), peg)) {
			return true, ErrNone
		}
	}
	return false, ErrNone
}

// RankOf returns the rank, and ErrNone.
func RankOf(x State) (int64, int64) {
	if !IsState(x) {
		return 0, ErrInvalid
	}
	return rankOf(x), ErrNone
}

// StateOfRank returns the state of n discs on k pegs with a rank, and ErrNone. (ErrInvalid is not
// returned.) Errors: ErrRange also if there are no such states.
func StateOfRank(k int64, n int64, r int64) (State, int64) {
	count, ok := numberOfStates(k, n)
	if !ok || r < 0 || r >= count {
		return State{}, ErrRange
	}
	return stateOfRank(k, n, r), ErrNone
}

// TopOf returns the top of a peg, and ErrNone. Errors: ErrNotFound if no disc is on it.
func TopOf(x State, peg int64) (int64, int64) {
	if !IsState(x) {
		return 0, ErrInvalid
	}
	if !isPeg(x.Pegs, peg) {
		return 0, ErrRange
	}
	for d, on := range x.Discs {
		if on == peg {
			return int64(d), ErrNone
		}
	}
	return 0, ErrNotFound
}

// StacksOf returns the stacks of all pegs, and ErrNone.
func StacksOf(x State) ([][]int64, int64) {
	if !IsState(x) {
		return nil, ErrInvalid
	}
	stacks := make([][]int64, x.Pegs)
	for d := len(x.Discs) - 1; d >= 0; d-- {
		peg := x.Discs[d]
		stacks[peg] = append(stacks[peg], int64(d))
	}
	return stacks, ErrNone
}

// isLegalMove reports whether a move is legal in a state.
func isLegalMove(x State, m Move) bool {
	if m.Disc < 0 || m.Disc >= int64(len(x.Discs)) || x.Discs[m.Disc] != m.From {
		return false
	}
	if m.From == m.To || !isPeg(x.Pegs, m.To) {
		return false
	}
	for _, peg := range x.Discs[:m.Disc] {
		if peg == m.From || peg == m.To {
			return false
		}
	}
	return true
}

// legalMoves ranges over the legal moves of a state, in their order.
func legalMoves(x State) iter.Seq[Move] {
	return func(yield func(Move) bool) {
		for d, from := range x.Discs {
			for to := range x.Pegs {
				m := Move{Disc: int64(d), From: from, To: to}
				if isLegalMove(x, m) && !yield(m) {
					return
				}
			}
		}
	}
}

// afterMove returns the state after a legal move.
func afterMove(x State, m Move) State {
	y := copyOfState(x)
	y.Discs[m.Disc] = m.To
	return y
}

// IsLegal reports whether a move is legal in x, and returns ErrNone. (ErrRange is not returned.)
func IsLegal(x State, m Move) (bool, int64) {
	if !IsState(x) {
		return false, ErrInvalid
	}
	return isLegalMove(x, m), ErrNone
}

// LegalMoves returns the legal moves, and ErrNone.
func LegalMoves(x State) ([]Move, int64) {
	if !IsState(x) {
		return nil, ErrInvalid
	}
	var moves []Move
	for m := range legalMoves(x) {
		moves = append(moves, m)
	}
	return moves, ErrNone
}

// AfterMove returns the state after a move, and ErrNone. Errors: ErrState if the move is not legal.
func AfterMove(x State, m Move) (State, int64) {
	if !IsState(x) {
		return State{}, ErrInvalid
	}
	if !isLegalMove(x, m) {
		return State{}, ErrState
	}
	return afterMove(x, m), ErrNone
}

// NeighboursOf returns the states after the legal moves, in their order, and ErrNone.
func NeighboursOf(x State) ([]State, int64) {
	if !IsState(x) {
		return nil, ErrInvalid
	}
	var neighbours []State
	for m := range legalMoves(x) {
		neighbours = append(neighbours, afterMove(x, m))
	}
	return neighbours, ErrNone
}

// RunMoves returns the last state of the run of at most MaxStates moves, and ErrNone. Errors:
// ErrRange if there are more moves; ErrState if a move is not legal.
func RunMoves(x State, moves []Move) (State, int64) {
	states, code := StatesOfRun(x, moves)
	if code != ErrNone {
		return State{}, code
	}
	return states[len(states)-1], ErrNone
}

// StatesOfRun returns all states of the run of at most MaxStates moves, the first one being x, and
// ErrNone. Errors: as for RunMoves.
func StatesOfRun(x State, moves []Move) ([]State, int64) {
	if !IsState(x) {
		return nil, ErrInvalid
	}
	if len(moves) > MaxStates {
		return nil, ErrRange
	}
	last := copyOfState(x)
	states := []State{last}
	for _, m := range moves {
		if !isLegalMove(last, m) {
			return nil, ErrState
		}
		last = afterMove(last, m)
		states = append(states, last)
	}
	return states, ErrNone
}

// movesToNeighbours returns, for the pegs of each neighbour of a state, the move that leads there.
func movesToNeighbours(x State) map[discPegs]Move {
	moves := map[discPegs]Move{}
	for m := range legalMoves(x) {
		moves[pegsOf(afterMove(x, m))] = m
	}
	return moves
}

// MoveBetween returns the move that is legal in x, and after which the state is y, and ErrNone.
// Errors: ErrRange if the states have not the same numbers of pegs and discs; ErrNotFound if there
// is none.
func MoveBetween(x State, y State) (Move, int64) {
	if code := codeOfPair(x, y); code != ErrNone {
		return Move{}, code
	}
	m, ok := movesToNeighbours(x)[pegsOf(y)]
	if !ok {
		return Move{}, ErrNotFound
	}
	return m, ErrNone
}

// isPegList reports whether a list has each of k pegs once.
func isPegList(k int64, list []int64) bool {
	if int64(len(list)) != k {
		return false
	}
	var seen [mostPegs]bool
	for _, peg := range list {
		if !isPeg(k, peg) || seen[peg] {
			return false
		}
		seen[peg] = true
	}
	return true
}

// RenamePegs returns x with its pegs renamed by a list of its k pegs, and ErrNone.
func RenamePegs(x State, list []int64) (State, int64) {
	if !IsState(x) {
		return State{}, ErrInvalid
	}
	if !isPegList(x.Pegs, list) {
		return State{}, ErrRange
	}
	y := copyOfState(x)
	for d, peg := range x.Discs {
		y.Discs[d] = list[peg]
	}
	return y, ErrNone
}

// digit returns the byte of a number in 0..9.
func digit(n int64) byte {
	return byte('0' + n)
}

// digitValue returns the number of a digit. For another byte it is out of 0..9, and so no disc, peg
// or number of pegs.
func digitValue(b byte) int64 {
	return int64(b) - '0'
}

// StateText returns the text of x, and ErrNone.
func StateText(x State) (string, int64) {
	if !IsState(x) {
		return "", ErrInvalid
	}
	text := []byte{digit(x.Pegs), ':'}
	for d := len(x.Discs) - 1; d >= 0; d-- {
		text = append(text, digit(x.Discs[d]))
	}
	return string(text), ErrNone
}

// ParseState returns the state with a text, and ErrNone. Errors: ErrSyntax if there is none. (No
// other errors are returned.)
func ParseState(text string) (State, int64) {
	if len(text) < 2 || len(text) > 2+MaxDiscs || text[1] != ':' {
		return State{}, ErrSyntax
	}
	x := State{Pegs: digitValue(text[0])}
	for i := len(text) - 1; i >= 2; i-- {
		x.Discs = append(x.Discs, digitValue(text[i]))
	}
	if !IsState(x) {
		return State{}, ErrSyntax
	}
	return x, ErrNone
}

// hasText reports whether a move has a text: From and To may be any pegs that a state can have, and
// equal ones, too.
func hasText(m Move) bool {
	return m.Disc >= 0 && m.Disc < MaxDiscs && isPeg(mostPegs, m.From) && isPeg(mostPegs, m.To)
}

// MoveText returns the text of a move with a Disc in 0..7, and From and To in 0..4, and ErrNone.
// (ErrInvalid is not returned.) Errors: ErrRange if it is no such move.
func MoveText(m Move) (string, int64) {
	if !hasText(m) {
		return "", ErrRange
	}
	return string([]byte{digit(m.Disc), ':', digit(m.From), '>', digit(m.To)}), ErrNone
}

// ParseMove returns the move with a text, with a Disc in 0..7, and From and To in 0..4, and
// ErrNone. Errors: ErrSyntax if there is none. (No other errors are returned.)
func ParseMove(text string) (Move, int64) {
	if len(text) != 5 || text[1] != ':' || text[3] != '>' {
		return Move{}, ErrSyntax
	}
	m := Move{Disc: digitValue(text[0]), From: digitValue(text[2]), To: digitValue(text[4])}
	if !hasText(m) {
		return Move{}, ErrSyntax
	}
	return m, ErrNone
}
