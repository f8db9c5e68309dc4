package pieces_test

import (
	"slices"
	"strings"
	"testing"

	"kibitzer/api"
	"kibitzer/pieces"
)

// man is a piece, written out apart from how the package reckons it.
type man struct {
	piece, color, kind uint8
	letter             string
	other              uint8
}

// men are all pieces there are.
var men = []man{
	{1, api.White, api.Pawn, "P", 9},
	{2, api.White, api.Knight, "N", 10},
	{3, api.White, api.Bishop, "B", 11},
	{4, api.White, api.Rook, "R", 12},
	{5, api.White, api.Queen, "Q", 13},
	{6, api.White, api.King, "K", 14},
	{9, api.Black, api.Pawn, "p", 1},
	{10, api.Black, api.Knight, "n", 2},
	{11, api.Black, api.Bishop, "b", 3},
	{12, api.Black, api.Rook, "r", 4},
	{13, api.Black, api.Queen, "q", 5},
	{14, api.Black, api.King, "k", 6},
}

// manOf is the one of that number; of a number that is no piece's what the calls tell of none, and false.
func manOf(piece uint8) (man, bool) {
	for _, m := range men {
		if m.piece == piece {
			return m, true
		}
	}
	return man{color: 2}, false
}

func checkNumber(t *testing.T, what string, of int, got, want uint8) {
	t.Helper()
	if got != want {
		t.Errorf("%s of %d: %d, not %d", what, of, got, want)
	}
}

func checkParse(t *testing.T, s string, want uint8, wantOk bool) {
	t.Helper()
	if got, ok := pieces.Parse(s); got != want || ok != wantOk {
		t.Errorf("Parse of %q: %d, %v, not %d, %v", s, got, ok, want, wantOk)
	}
}

// P5.1

func TestMakeExamples(t *testing.T) {
	for _, c := range []struct{ color, kind, want uint8 }{
		{0, 1, 1}, {1, 6, 14}, {0, 6, 6}, {1, 1, 9},
		{2, 1, 0}, {0, 7, 0}, {0, 0, 0}, {1, 0, 0}, {1, 7, 0}, {0, 9, 0}, {0, 8, 0},
		{32, 1, 0}, {33, 6, 0}, {64, 1, 0}, {255, 1, 0}, {255, 9, 0}, {255, 255, 0}, {0, 255, 0},
	} {
		if got := pieces.Make(c.color, c.kind); got != c.want {
			t.Errorf("Make of %d, %d: %d, not %d", c.color, c.kind, got, c.want)
		}
	}
}

func TestMakeOfAllColorsAndKinds(t *testing.T) {
	made := 0
	for color := range 256 {
		for kind := range 256 {
			want := uint8(0)
			for _, m := range men {
				if int(m.color) == color && int(m.kind) == kind {
					want = m.piece
					made++
				}
			}
			if got := pieces.Make(uint8(color), uint8(kind)); got != want {
				t.Errorf("Make of %d, %d: %d, not %d", color, kind, got, want)
			}
		}
	}
	if made != 12 {
		t.Errorf("%d are made", made)
	}
}

func TestIsColorKindOfAllNumbers(t *testing.T) {
	for i := range 256 {
		piece := uint8(i)
		m, is := manOf(piece)
		if pieces.Is(piece) != is {
			t.Errorf("Is of %d: %v", i, !is)
		}
		checkNumber(t, "Color", i, pieces.Color(piece), m.color)
		checkNumber(t, "Kind", i, pieces.Kind(piece), m.kind)
	}
}

// Each of these has the color or the kind of a piece, if only one of both is asked for.
func TestNoPieceHasNeitherColorNorKind(t *testing.T) {
	for _, piece := range []uint8{0, 7, 8, 15, 16, 17, 22, 24, 25, 128, 129, 137, 249, 254, 255} {
		if pieces.Is(piece) {
			t.Errorf("Is of %d", piece)
		}
		checkNumber(t, "Color", int(piece), pieces.Color(piece), 2)
		checkNumber(t, "Kind", int(piece), pieces.Kind(piece), 0)
	}
}

// P5.2

func TestLetterOfAllNumbers(t *testing.T) {
	for i := range 256 {
		m, _ := manOf(uint8(i))
		if got := pieces.Letter(uint8(i)); got != m.letter {
			t.Errorf("Letter of %d: %q, not %q", i, got, m.letter)
		}
	}
}

func TestParseOfOneByte(t *testing.T) {
	for b := range 256 {
		s := string([]byte{byte(b)})
		want, wantOk := uint8(0), false
		for _, m := range men {
			if m.letter == s {
				want, wantOk = m.piece, true
			}
		}
		checkParse(t, s, want, wantOk)
	}
}

func TestParseOfTwoBytes(t *testing.T) {
	for a := range 256 {
		for b := range 256 {
			checkParse(t, string([]byte{byte(a), byte(b)}), 0, false)
		}
	}
}

func TestParseOfOtherTexts(t *testing.T) {
	for _, s := range []string{"", "x", "qq", "PN", "PNB", "PNBRQK", "pnbrqk", "PNBRQKpnbrqk", "KKK", "pawn", "King", "\x00", "\x00\x00P", "P\x00\x00", " K ", "é", "Р", "Ｋ", "♔", "♟", "𝐐", "K\u0301", "\ufeffk"} {
		checkParse(t, s, 0, false)
	}
}

func TestParseOfLetterAmongOthers(t *testing.T) {
	for _, m := range men {
		for _, more := range []string{" ", "\x00", "\n", ".", "\xff", "é", "♔", "PNBRQK", m.letter} {
			checkParse(t, m.letter+more, 0, false)
			checkParse(t, more+m.letter, 0, false)
			checkParse(t, more+m.letter+more, 0, false)
		}
		// As long as one byte, if lengths are reckoned in a byte, or in two.
		checkParse(t, m.letter+strings.Repeat(" ", 256), 0, false)
		checkParse(t, strings.Repeat(m.letter, 257), 0, false)
		checkParse(t, strings.Repeat(m.letter, 1<<16+1), 0, false)
	}
}

// Letters of more than one byte, whose numbers are those of a piece's letter, if only their last byte is asked for.
func TestParseOfLettersOfSeveralBytes(t *testing.T) {
	for _, m := range men {
		for _, above := range []rune{1, 2, 3, 4, 0x20, 0x26, 0xff, 0x100, 0x1f6, 0x10ff} {
			checkParse(t, string(above<<8|rune(m.letter[0])), 0, false)
		}
		// The same letter, made too long.
		checkParse(t, string([]byte{0xc0 | m.letter[0]>>6, 0x80 | m.letter[0]&0x3f}), 0, false)
		checkParse(t, string([]byte{0xe0, 0x80 | m.letter[0]>>6, 0x80 | m.letter[0]&0x3f}), 0, false)
	}
}

// P5.3

func TestKinds(t *testing.T) {
	want := []uint8{api.Pawn, api.Knight, api.Bishop, api.Rook, api.Queen, api.King}
	if got := pieces.Kinds(); !slices.Equal(got, want) || !slices.Equal(got, []uint8{1, 2, 3, 4, 5, 6}) {
		t.Errorf("Kinds: %v", got)
	}
}

func TestKindsIsNewMemory(t *testing.T) {
	want := []uint8{1, 2, 3, 4, 5, 6}
	had := pieces.Kinds()
	changed := pieces.Kinds()
	for i := range changed[:cap(changed)] {
		changed[:cap(changed)][i] = 99
	}
	_ = append(changed[:0], 7, 7, 7, 7, 7, 7, 7)
	if !slices.Equal(had, want) {
		t.Errorf("Kinds told before: %v", had)
	}
	if got := pieces.Kinds(); !slices.Equal(got, want) {
		t.Errorf("Kinds told after: %v", got)
	}
	for _, m := range men {
		checkNumber(t, "Make after a change", int(m.piece), pieces.Make(m.color, m.kind), m.piece)
		checkParse(t, m.letter, m.piece, true)
	}
}

func TestKindsBothToldAreApart(t *testing.T) {
	a, b := pieces.Kinds(), pieces.Kinds()
	a = append(a, 100)
	b = append(b, 200)
	if a[6] != 100 || b[6] != 200 {
		t.Errorf("one list behind both: %v, %v", a, b)
	}
}

func TestOtherOfAllNumbers(t *testing.T) {
	for i := range 256 {
		m, _ := manOf(uint8(i))
		checkNumber(t, "Other", i, pieces.Other(uint8(i)), m.other)
	}
}

// P5.4

func TestThereAndBack(t *testing.T) {
	found := 0
	for i := range 256 {
		piece := uint8(i)
		if !pieces.Is(piece) {
			checkNumber(t, "Make of Color and Kind of none", i, pieces.Make(pieces.Color(piece), pieces.Kind(piece)), 0)
			checkParse(t, pieces.Letter(piece), 0, false)
			continue
		}
		found++
		checkNumber(t, "Make of Color and Kind", i, pieces.Make(pieces.Color(piece), pieces.Kind(piece)), piece)
		checkParse(t, pieces.Letter(piece), piece, true)
	}
	if found != 12 {
		t.Errorf("there are %d pieces", found)
	}
}

func TestBackFromColorsAndKinds(t *testing.T) {
	seen := map[uint8]int{}
	letters := map[string]int{}
	for _, color := range []uint8{api.White, api.Black} {
		for _, kind := range pieces.Kinds() {
			piece := pieces.Make(color, kind)
			seen[piece]++
			letters[pieces.Letter(piece)]++
			if !pieces.Is(piece) || pieces.Color(piece) != color || pieces.Kind(piece) != kind {
				t.Errorf("Make of %d, %d: %d", color, kind, piece)
			}
		}
	}
	if len(seen) != 12 || len(letters) != 12 {
		t.Errorf("%d pieces, %d letters", len(seen), len(letters))
	}
}

func TestBackFromLetters(t *testing.T) {
	for _, letter := range strings.Split("PNBRQKpnbrqk", "") {
		piece, ok := pieces.Parse(letter)
		if !ok || pieces.Letter(piece) != letter {
			t.Errorf("Letter of Parse of %s: %q, %v", letter, pieces.Letter(piece), ok)
		}
	}
}

// P5.5

func TestOtherOfOther(t *testing.T) {
	for i := range 256 {
		piece := uint8(i)
		other := pieces.Other(piece)
		if !pieces.Is(piece) {
			checkNumber(t, "Other of Other of none", i, pieces.Other(other), 0)
			continue
		}
		checkNumber(t, "Other of Other", i, pieces.Other(other), piece)
		checkNumber(t, "Kind of Other", i, pieces.Kind(other), pieces.Kind(piece))
		checkNumber(t, "Color of Other", i, pieces.Color(other), 1-pieces.Color(piece))
	}
}

func TestLetterOfOther(t *testing.T) {
	for _, m := range men {
		letter, other := pieces.Letter(m.piece), pieces.Letter(pieces.Other(m.piece))
		if letter == other || strings.ToLower(letter) != strings.ToLower(other) {
			t.Errorf("of %d: %q, and of the other one %q", m.piece, letter, other)
		}
		// White's are the capital ones.
		if white := letter == strings.ToUpper(letter); white != (m.color == api.White) {
			t.Errorf("Letter of %d: %q", m.piece, letter)
		}
	}
}
