package tests

import (
	"slices"
	"strings"
	"testing"

	"loop.example/g01321/impl"
)

// Letters of moves, texts of letters, squares in texts, and counts of letters.

// TestLetterOf has moves of discs that no state has, too: the letter depends on the pegs alone.
func TestLetterOf(t *testing.T) {
	for pegs, want := range lettersOfPegs() {
		for _, disc := range append(oddNumbers(), 0, 1, 2, 7, 8, 40, 1<<62) {
			m := move(disc, pegs[0], pegs[1])
			if letter, code := impl.LetterOf(m); letter != want || code != impl.ErrNone {
				t.Errorf("LetterOf(%v) = %q, %d, want %q", m, letter, code, want)
			}
		}
	}
}

// checkLetters fails if the text of the letters of n moves from the one at t on is not the wanted one.
func checkLetters(t *testing.T, time, n int64, want string) {
	t.Helper()
	if text, code := impl.LettersFrom(time, n); text != want || code != impl.ErrNone {
		t.Errorf("LettersFrom(%d, %d) = %q, %d, want %q", time, n, text, code, want)
	}
}

// TestLettersFromByHand has texts that go on behind MaxTime.
func TestLettersFromByHand(t *testing.T) {
	cases := []struct {
		time, n int64
		want    string
	}{
		{1, 0, ""}, {1, 1, "a"}, {1, 2, "aC"}, {2, 1, "C"}, {4, 3, "acB"}, {9, 0, ""},
		{1, 32, "aCbacBaCbAcbaCbacBacbAcBaCbacBaC"},
		{1<<20 - 2, 5, "CbacB"},
		{1<<39 - 4, 8, "acBaCbAc"},
		{impl.MaxTime - 3, 8, "aCbacBac"},
		{impl.MaxTime, 0, ""}, {impl.MaxTime, 1, "a"},
		{impl.MaxTime, 20, "acBacbAcBaCbacBacbAc"},
	}
	for _, c := range cases {
		checkLetters(t, c.time, c.n, c.want)
	}
}

// TestLettersFrom has all numbers of moves from 1 on and from MaxTime on.
func TestLettersFrom(t *testing.T) {
	for _, time := range []int64{1, impl.MaxTime} {
		text := lettersOfTimes(time, impl.MaxWords)
		for n := range int64(impl.MaxWords + 1) {
			checkLetters(t, time, n, text[:n])
		}
	}
}

func TestLettersFromSomeTimes(t *testing.T) {
	for i, time := range someTimes() {
		checkLetters(t, time, 1, letterOfTime(time))
		if i%10 == 0 {
			checkLetters(t, time, 7, lettersOfTimes(time, 7))
		}
		if i%100 == 0 {
			checkLetters(t, time, impl.MaxWords, lettersOfTimes(time, impl.MaxWords))
		}
	}
}

// checkFirstSquare fails if the first square of a text is not the wanted one.
func checkFirstSquare(t *testing.T, text string, want square) {
	t.Helper()
	if begin, length, code := impl.FirstSquare(text); (square{begin, length}) != want || code != impl.ErrNone {
		t.Errorf("FirstSquare(%q) = %d, %d, %d, want %v", text, begin, length, code, want)
	}
}

// checkNoSquare fails if a text has a square.
func checkNoSquare(t *testing.T, text string) {
	t.Helper()
	if begin, length, code := impl.FirstSquare(text); begin != 0 || length != 0 || code != impl.ErrNotFound {
		t.Errorf("FirstSquare(%q) = %d, %d, %d, want none", text, begin, length, code)
	}
}

// TestFirstSquareByHand has squares at the beginning and at the end of texts, several lengths for one
// beginning, and texts with a later square of a lesser length.
func TestFirstSquareByHand(t *testing.T) {
	squares := map[string]square{
		"aa":                {0, 1},
		"aab":               {0, 1},
		"baa":               {1, 1},
		"abba":              {1, 1},
		"abab":              {0, 2},
		"abcbc":             {1, 2},
		"banana":            {1, 2},
		"abcabc":            {0, 3},
		"xabcabcab":         {1, 3},
		"abaabaab":          {0, 3},
		"mississippi":       {1, 3},
		"abacabaabacaba":    {0, 7},
		"aaaa":              {0, 1},
		"aabaab":            {0, 1},
		"abababab":          {0, 2},
		"abcabcabcabc":      {0, 3},
		"abcdefghabcdefgh":  {0, 8},
		"0abcdefghabcdefgh": {1, 8},
		"abcdefghh":         {7, 1},
	}
	for text, want := range squares {
		checkFirstSquare(t, text, want)
	}
	for _, text := range []string{"", "a", "ab", "aba", "abc", "abcdabce", "abacaba", "abcacbabc", "aAbBcC"} {
		checkNoSquare(t, text)
	}
}

// TestSquaresOfAnyBytes has bytes that are no letters, and letters of more than one byte, which count
// as several ones, and within which a square may begin.
func TestSquaresOfAnyBytes(t *testing.T) {
	squares := map[string]square{
		"\x00\x00":                  {0, 1},
		"\xff\xff":                  {0, 1},
		"a\xff\x00\xff\x00":         {1, 2},
		"\n \n ":                    {0, 2},
		"\x7f\x80\x80":              {1, 1},
		"\xe4\xe4":                  {0, 1},
		"\xc3\xa9\xc3\xa9":          {0, 2},
		"a\xc3\xa9\xc3\xa9":         {1, 2},
		"\xa9\xc3\xa9\xc3":          {0, 2},
		"\xc3\xa9\xa9":              {1, 1},
		"x\xe2\x82\xac\xe2\x82\xac": {1, 3},
		"\xe2\x82\xe2\x82\xac":      {0, 2},
		"..":                        {0, 1},
		"11":                        {0, 1},
	}
	for text, want := range squares {
		checkFirstSquare(t, text, want)
	}
	for _, text := range []string{"\x00", "\xff", "\x00\xff\x00", "\xc3\xa9", "\xc3\xa9\xc3", "a\x00b", " ", "\xef\xbf\xbd"} {
		checkNoSquare(t, text)
	}
}

// checkSquares fails if the first square of a text is not that found by rows of equal bytes, or if
// there is none where these find one.
func checkSquares(t *testing.T, text string) {
	t.Helper()
	if want, ok := firstSquareOf(text); ok {
		checkFirstSquare(t, text, want)
	} else {
		checkNoSquare(t, text)
	}
}

// TestFirstSquare has all texts of at most ten bytes among two, seven among three, and five among
// four.
func TestFirstSquare(t *testing.T) {
	lengths := map[string]int{"ab": 10, "abc": 7, "aA\x00\xff": 5}
	for letters, most := range lengths {
		for n := range most + 1 {
			for _, text := range textsOf(letters, n) {
				checkSquares(t, text)
			}
		}
	}
}

// otherLetters returns a text with its letters a, b, c, A, B and C replaced by others.
func otherLetters(text string) string {
	return strings.NewReplacer("a", "d", "b", "e", "c", "f", "A", "D", "B", "E", "C", "F").Replace(text)
}

// TestSquaresOfLongTexts has texts of MaxWords bytes without a square, of equal bytes, with a byte that
// is doubled, and with one square of each length, at the beginning and at the end.
func TestSquaresOfLongTexts(t *testing.T) {
	text := lettersOfTimes(1, impl.MaxWords)
	checkNoSquare(t, text)
	checkFirstSquare(t, strings.Repeat("a", impl.MaxWords), square{0, 1})
	for place := range impl.MaxWords - 1 {
		checkSquares(t, text[:place+1]+text[place:impl.MaxWords-1])
	}
	for length := int64(1); length <= impl.MaxWords/2; length++ {
		part, rest := text[:length-1]+"#", otherLetters(text[2*length:])
		checkFirstSquare(t, part+part+rest, square{0, length})
		checkFirstSquare(t, rest+part+part, square{impl.MaxWords - 2*length, length})
	}
}

// countsOf returns how many letters of a text are a, b, c, A, B and C.
func countsOf(text string) []int64 {
	counts := []int64{}
	for _, letter := range []string{"a", "b", "c", "A", "B", "C"} {
		counts = append(counts, int64(strings.Count(text, letter)))
	}
	return counts
}

// checkCounts fails if the counts of letters up to a time are not the wanted ones.
func checkCounts(t *testing.T, time int64, want []int64) {
	t.Helper()
	if counts, code := impl.LetterCounts(time); !slices.Equal(counts, want) || code != impl.ErrNone {
		t.Errorf("LetterCounts(%d) = %v, %d, want %v", time, counts, code, want)
	}
}

func TestLetterCountsByHand(t *testing.T) {
	cases := map[int64][]int64{
		0:     {0, 0, 0, 0, 0, 0},
		1:     {1, 0, 0, 0, 0, 0},
		2:     {1, 0, 0, 0, 0, 1},
		3:     {1, 1, 0, 0, 0, 1},
		7:     {3, 1, 1, 0, 1, 1},
		15:    {4, 4, 2, 1, 1, 3},
		100:   {24, 22, 21, 10, 11, 12},
		255:   {58, 58, 54, 27, 27, 31},
		1000:  {224, 223, 219, 110, 110, 114},
		4096:  {913, 912, 906, 453, 453, 459},
		9999:  {2224, 2223, 2219, 1109, 1110, 1114},
		10000: {2225, 2223, 2219, 1109, 1110, 1114},
	}
	for time, want := range cases {
		checkCounts(t, time, want)
	}
}

// TestLetterCounts has all times.
func TestLetterCounts(t *testing.T) {
	text := lettersOfTimes(1, 10000)
	for time := range len(text) + 1 {
		checkCounts(t, int64(time), countsOf(text[:time]))
	}
}
