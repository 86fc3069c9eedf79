package tests

import (
	"slices"
	"strings"
	"testing"

	"loop.example/g01321/impl"
)

func TestTextsOfRingsByHand(t *testing.T) {
	cases := map[string][]int64{
		"":                 nil,
		"0":                {0},
		"1":                {1},
		"01":               {1, 0},
		"10":               {0, 1},
		"000":              {0, 0, 0},
		"0110":             {0, 1, 1, 0},
		"1101":             {1, 0, 1, 1},
		"0000000000000000": tower(0, 16),
		"1111111111111111": tower(1, 16),
		"1000000000000000": lastAloneOn(16),
		"0000000000000001": changed(tower(0, 16), 0),
	}
	for want, word := range cases {
		if text, code := impl.RingsText(word); text != want || code != impl.ErrNone {
			t.Errorf("RingsText(%v) = %q, %d, want %q", word, text, code, want)
		}
		if back, code := impl.ParseRings(want); !slices.Equal(back, word) || code != impl.ErrNone {
			t.Errorf("ParseRings(%q) = %v, %d, want %v", want, back, code, word)
		}
	}
	if text, code := impl.RingsText([]int64{}); text != "" || code != impl.ErrNone {
		t.Errorf("RingsText of the word of no rings = %q, %d", text, code)
	}
}

func TestTextsOfRings(t *testing.T) {
	for word := range ringWords() {
		want := ""
		for _, number := range word {
			want = string("01"[number]) + want
		}
		if text, code := impl.RingsText(word); text != want || code != impl.ErrNone {
			t.Fatalf("RingsText(%v) = %q, %d, want %q", word, text, code, want)
		}
		if back, code := impl.ParseRings(want); !slices.Equal(back, word) || code != impl.ErrNone {
			t.Fatalf("ParseRings(%q) = %v, %d, want %v", want, back, code, word)
		}
	}
}

func TestTextsOfNoRings(t *testing.T) {
	bad := []string{
		"2", "9", "-1", "+1", "-0", " ", " 1", "1 ", "0 1", "0,1", "0\n", "\n", "01\x00", "\x00", "\x01", "\x00\x01", "a", "0x1",
		"01:", "0/", "1;", "٠", "１", "0１", "\xff", "0\xff", "O1", "l", "true", "3:01", "0.1", "012", "210",
		strings.Repeat("0", 17), strings.Repeat("1", 17), strings.Repeat("2", 16), strings.Repeat("0", 15) + "2", "2" + strings.Repeat("1", 15),
		strings.Repeat("0", 64), strings.Repeat("1", 100000), strings.Repeat("0", 16) + "\n",
	}
	for _, text := range bad {
		if word, code := impl.ParseRings(text); len(word) != 0 || code != impl.ErrSyntax {
			t.Errorf("ParseRings(%.20q) = %v, %d", text, word, code)
		}
	}
}

// TestTextsOfRingsWithAnyByte puts each byte at each place of texts.
func TestTextsOfRingsWithAnyByte(t *testing.T) {
	for _, text := range []string{"0", "1", "01", "0110", strings.Repeat("01", 8)} {
		for i := range text {
			for b := range 256 {
				changed := text[:i] + string([]byte{byte(b)}) + text[i+1:]
				word, code := impl.ParseRings(changed)
				if b != '0' && b != '1' {
					if len(word) != 0 || code != impl.ErrSyntax {
						t.Errorf("ParseRings(%q) = %v, %d", changed, word, code)
					}
					continue
				}
				if len(word) != len(text) || word[len(text)-1-i] != int64(b-'0') || code != impl.ErrNone {
					t.Errorf("ParseRings(%q) = %v, %d", changed, word, code)
				}
			}
		}
	}
}

func TestLengthsOfTextsOfRings(t *testing.T) {
	for n := range int64(70) {
		word, code := impl.ParseRings(strings.Repeat("1", int(n)))
		if n > impl.MaxRings && (len(word) != 0 || code != impl.ErrSyntax) {
			t.Errorf("ParseRings of %d digits = %v, %d", n, word, code)
		}
		if n <= impl.MaxRings && (!slices.Equal(word, tower(1, n)) || code != impl.ErrNone) {
			t.Errorf("ParseRings of %d digits = %v, %d", n, word, code)
		}
	}
}
