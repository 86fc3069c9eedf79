package tests

import (
	"strconv"
	"strings"
	"testing"

	"loop.example/g01321/impl"
)

func TestStateText(t *testing.T) {
	for _, x := range allStates() {
		want := strconv.FormatInt(x.Pegs, 10) + ":"
		for i := range x.Discs {
			want += strconv.FormatInt(x.Discs[len(x.Discs)-1-i], 10)
		}
		if text, code := impl.StateText(x); text != want || code != impl.ErrNone {
			t.Fatalf("StateText(%v) = %q, %d, want %q", x, text, code, want)
		}
		if y, code := impl.ParseState(want); !sameState(y, x) || code != impl.ErrNone {
			t.Fatalf("ParseState(%q) = %v, %d", want, y, code)
		}
	}
}

func TestTextsOfStatesByHand(t *testing.T) {
	cases := map[string]impl.State{
		"3:":         state(3),
		"4:":         state(4),
		"5:":         state(5),
		"3:0121":     state(3, 1, 2, 1, 0),
		"3:00000001": state(3, 1, 0, 0, 0, 0, 0, 0, 0),
		"4:300000":   state(4, 0, 0, 0, 0, 0, 3),
		"5:43210":    state(5, 0, 1, 2, 3, 4),
	}
	for want, x := range cases {
		if text, code := impl.StateText(x); text != want || code != impl.ErrNone {
			t.Errorf("StateText(%v) = %q, %d", x, text, code)
		}
		if y, code := impl.ParseState(want); !sameState(y, x) || code != impl.ErrNone {
			t.Errorf("ParseState(%q) = %v, %d", want, y, code)
		}
	}
}

func TestTextsOfNoStates(t *testing.T) {
	bad := []string{
		"", ":", "3", "3;", "3;0", ":3", "0:", "1:0", "2:", "2:01", "6:", "6:01", "9:0", "03:0", "13:0", "-3:0", "+3:0",
		"3:3", "4:4", "5:5", "3:0a", "3:-1", "3:+1", "3:/", "3::", "3:0:", "3:0 ", " 3:0", "3: 0", "3 :0", "3:0\n", "3:\x00", "3:0\x00",
		"3:000000000", "4:0000000", "5:000000", "3:0,1", "3:0\xff", "\xff:0", "3:٠", "３:0", "3：0", "0\x00:0",
		"3:" + strings.Repeat("0", 100000), strings.Repeat("3", 100000), strings.Repeat(":", 9),
	}
	for _, text := range bad {
		if x, code := impl.ParseState(text); !isZeroState(x) || code != impl.ErrSyntax {
			t.Errorf("ParseState(%.20q) = %v, %d", text, x, code)
		}
	}
}

// TestTextsWithAnyByte puts each byte at each place of texts: just those that StateText or MoveText
// returns come through.
func TestTextsWithAnyByte(t *testing.T) {
	for _, text := range []string{"3:", "3:0", "3:012", "4:123", "5:01234", "2:11"} {
		for i := range text {
			for b := range 256 {
				changed := text[:i] + string([]byte{byte(b)}) + text[i+1:]
				x, code := impl.ParseState(changed)
				back, backCode := impl.StateText(x)
				if code == impl.ErrNone && (back != changed || backCode != impl.ErrNone) || code != impl.ErrNone && !isZeroState(x) {
					t.Errorf("ParseState(%q) = %v, %d", changed, x, code)
				}
				wantedCode := int64(impl.ErrSyntax)
				if isTextOfState(changed) {
					wantedCode = impl.ErrNone
				}
				wantCode(t, "ParseState of "+strconv.Quote(changed), code, wantedCode)
			}
		}
	}
	for i := range "0:0>1" {
		for b := range 256 {
			changed := "0:0>1"[:i] + string([]byte{byte(b)}) + "0:0>1"[i+1:]
			m, code := impl.ParseMove(changed)
			wantedCode := int64(impl.ErrSyntax)
			if isTextOfMove(changed) {
				wantedCode = impl.ErrNone
			}
			wantCode(t, "ParseMove of "+strconv.Quote(changed), code, wantedCode)
			if code != impl.ErrNone && m != (impl.Move{}) {
				t.Errorf("ParseMove(%q) = %v, %d", changed, m, code)
			}
		}
	}
}

// isTextOfState tells, without the program, whether a short text is that of a state.
func isTextOfState(text string) bool {
	if len(text) < 2 || !strings.Contains("345", text[:1]) || text[1] != ':' {
		return false
	}
	return strings.Trim(text[2:], "01234"[:text[0]-'0']) == ""
}

// isTextOfMove tells, without the program, whether a text is that of a move.
func isTextOfMove(text string) bool {
	return len(text) == 5 && strings.Contains("01234567", text[:1]) && text[1] == ':' &&
		strings.Contains("01234", text[2:3]) && text[3] == '>' && strings.Contains("01234", text[4:])
}

func TestMoveText(t *testing.T) {
	for _, m := range someMoves() {
		text, code := impl.MoveText(m)
		if m.Disc < 0 || m.Disc > 7 || m.From < 0 || m.From > 4 || m.To < 0 || m.To > 4 {
			if text != "" || code != impl.ErrRange {
				t.Errorf("MoveText(%v) = %q, %d", m, text, code)
			}
			continue
		}
		want := strconv.FormatInt(m.Disc, 10) + ":" + strconv.FormatInt(m.From, 10) + ">" + strconv.FormatInt(m.To, 10)
		if text != want || code != impl.ErrNone {
			t.Errorf("MoveText(%v) = %q, %d", m, text, code)
		}
		if back, code := impl.ParseMove(want); back != m || code != impl.ErrNone {
			t.Errorf("ParseMove(%q) = %v, %d", want, back, code)
		}
	}
}

func TestTextsOfMovesByHand(t *testing.T) {
	cases := map[string]impl.Move{"0:0>2": move(0, 0, 2), "7:4>0": move(7, 4, 0), "3:1>1": move(3, 1, 1), "0:0>0": {}}
	for want, m := range cases {
		if text, code := impl.MoveText(m); text != want || code != impl.ErrNone {
			t.Errorf("MoveText(%v) = %q, %d", m, text, code)
		}
		if back, code := impl.ParseMove(want); back != m || code != impl.ErrNone {
			t.Errorf("ParseMove(%q) = %v, %d", want, back, code)
		}
	}
	for _, m := range []impl.Move{move(8, 0, 1), move(0, 5, 1), move(0, 1, 5), move(-1, 0, 1), move(0, -1, 1), move(0, 0, -1), move(256, 0, 1)} {
		if text, code := impl.MoveText(m); text != "" || code != impl.ErrRange {
			t.Errorf("MoveText(%v) = %q, %d", m, text, code)
		}
	}
}

func TestTextsOfNoMoves(t *testing.T) {
	bad := []string{
		"", "0", "0:", "0:0", "0:0>", "0:0>1>2", "0:0>1:2", "8:0>1", "9:0>1", "0:5>1", "0:1>5", "00:0>1", "0:00>1", "0:0>01",
		"-1:0>1", "0:-1>1", "0:0>-1", "+0:0>1", "0:+0>1", "0:0>1 ", " 0:0>1", "0: >1", "0:0> ", "0>0:1", "0:0<1", "0;0>1", "a:0>1",
		"0:0>1\n", "\n0:0>1", "0:0>1\x00", "０:0>1", ":0>1", "0:>1", "0:0>1;", strings.Repeat("0:0>1", 100000),
	}
	for _, text := range bad {
		if m, code := impl.ParseMove(text); m != (impl.Move{}) || code != impl.ErrSyntax {
			t.Errorf("ParseMove(%.20q) = %v, %d", text, m, code)
		}
	}
}
