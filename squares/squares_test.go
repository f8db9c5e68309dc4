package squares_test

import (
	"math"
	"testing"

	"kibitzer/squares"
)

// noSquares are numbers that are no squares: just outside, congruent to a square, and as far out as an int goes.
var noSquares = []int{-1, -2, -7, -8, -9, -63, -64, -65, 64, 65, 71, 72, 127, 128, 255, 256, 1 << 31, 1 << 32, -1 << 32, math.MinInt, math.MinInt + 1, math.MaxInt - 1, math.MaxInt}

// noLines are numbers that are neither a file nor a rank.
var noLines = []int{-1, -2, -7, -8, -64, 8, 9, 15, 16, 64, 256, 1 << 32, 1 << 61, -1 << 61, math.MinInt, math.MinInt + 1, math.MaxInt - 1, math.MaxInt}

// texts are those of all squares, written out apart from how the package makes them.
var texts = [64]string{
	"a1", "b1", "c1", "d1", "e1", "f1", "g1", "h1",
	"a2", "b2", "c2", "d2", "e2", "f2", "g2", "h2",
	"a3", "b3", "c3", "d3", "e3", "f3", "g3", "h3",
	"a4", "b4", "c4", "d4", "e4", "f4", "g4", "h4",
	"a5", "b5", "c5", "d5", "e5", "f5", "g5", "h5",
	"a6", "b6", "c6", "d6", "e6", "f6", "g6", "h6",
	"a7", "b7", "c7", "d7", "e7", "f7", "g7", "h7",
	"a8", "b8", "c8", "d8", "e8", "f8", "g8", "h8",
}

// kingSteps tells by a walk of a king how many steps each square is away from s.
func kingSteps(s int) [64]int {
	var steps [64]int
	for i := range steps {
		steps[i] = -1
	}
	steps[s] = 0
	for line := []int{s}; len(line) > 0; line = line[1:] {
		from := line[0]
		for file := from%8 - 1; file <= from%8+1; file++ {
			for rank := from/8 - 1; rank <= from/8+1; rank++ {
				if file < 0 || file > 7 || rank < 0 || rank > 7 || steps[8*rank+file] >= 0 {
					continue
				}
				steps[8*rank+file] = steps[from] + 1
				line = append(line, 8*rank+file)
			}
		}
	}
	return steps
}

// refused fails the test unless the text is none's.
func refused(t *testing.T, text string) {
	t.Helper()
	if s, ok := squares.Parse(text); ok || s != 0 {
		t.Errorf("Parse of %q: %d, %v", text, s, ok)
	}
}

// P2.1

func TestFileRankOfAllSquares(t *testing.T) {
	s := 0
	for rank := range 8 {
		for file := range 8 {
			if got := squares.File(s); got != file {
				t.Errorf("File of %d: %d", s, got)
			}
			if got := squares.Rank(s); got != rank {
				t.Errorf("Rank of %d: %d", s, got)
			}
			if got, ok := squares.Of(file, rank); !ok || got != s {
				t.Errorf("Of(%d, %d): %d, %v", file, rank, got, ok)
			}
			s++
		}
	}
}

func TestFileRankOfNoSquare(t *testing.T) {
	for _, s := range noSquares {
		if got := squares.File(s); got != -1 {
			t.Errorf("File of %d: %d", s, got)
		}
		if got := squares.Rank(s); got != -1 {
			t.Errorf("Rank of %d: %d", s, got)
		}
	}
}

func TestOfNoFileOrRank(t *testing.T) {
	none := func(file, rank int) {
		if s, ok := squares.Of(file, rank); ok || s != 0 {
			t.Errorf("Of(%d, %d): %d, %v", file, rank, s, ok)
		}
	}
	for _, n := range noLines {
		for line := range 8 {
			none(n, line)
			none(line, n)
		}
		for _, m := range noLines {
			none(n, m)
		}
	}
}

// P2.2

func TestTextParseOfAllSquares(t *testing.T) {
	for s, text := range texts {
		if got := squares.Text(s); got != text {
			t.Errorf("Text of %d: %q", s, got)
		}
		if got, ok := squares.Parse(text); !ok || got != s {
			t.Errorf("Parse of %q: %d, %v", text, got, ok)
		}
	}
}

func TestTextOfNoSquare(t *testing.T) {
	for _, s := range noSquares {
		if got := squares.Text(s); got != "" {
			t.Errorf("Text of %d: %q", s, got)
		}
	}
}

func TestParseOfNoText(t *testing.T) {
	for _, text := range []string{
		"", "e", "4", " ", "é", "\x00",
		"E4", "A1", "H8", "e0", "e9", "a0", "h9", "i1", "`1", "a:", "a/", "4e", "11", "aa", "  ", "--",
		"e44", "ee4", "e4 ", " e4", "e4\n", "e4\x00", "e4e5", "a1a", "a1é", "éa1",
		"ß", "¿", "\u0461", "\u0131", "aé", "é1", "e４", "ｅ4", "e٤", "😀", "a\u0301",
		"\xff\xff", "e\xff", "\xff4", "\xe5", "\xe5\xb4", "\xc1\xa1", "\xc0\xb1", "e\xb4", "e\x00", "\x004", "\xc3e", "e\xc3",
	} {
		refused(t, text)
	}
}

func TestParseOfAllTextsOfOneAndTwoBytes(t *testing.T) {
	known := map[string]int{}
	for s, text := range texts {
		known[text] = s
	}
	for a := range 256 {
		refused(t, string([]byte{byte(a)}))
		for b := range 256 {
			text := string([]byte{byte(a), byte(b)})
			want, is := known[text]
			if got, ok := squares.Parse(text); ok != is || got != want {
				t.Errorf("Parse of %q: %d, %v", text, got, ok)
			}
		}
	}
}

func TestParseOfLongerTexts(t *testing.T) {
	for _, text := range texts {
		for b := range 256 {
			more := string([]byte{byte(b)})
			refused(t, text+more)
			refused(t, more+text)
			refused(t, text[:1]+more+text[1:])
		}
		long := text
		for range 12 {
			long += long
			refused(t, long)
		}
	}
}

// P2.3

func TestDistanceExamples(t *testing.T) {
	for _, c := range []struct{ a, b, want int }{
		{0, 63, 7}, {7, 56, 7}, {0, 0, 0}, {63, 63, 0}, {0, 64, -1}, {64, 0, -1},
		{7, 8, 7}, {0, 9, 1}, {0, 10, 2}, {0, 17, 2}, {28, 31, 3}, {28, 4, 3},
	} {
		if got := squares.Distance(c.a, c.b); got != c.want {
			t.Errorf("Distance of %d and %d: %d", c.a, c.b, got)
		}
	}
}

func TestDistanceOfAllSquares(t *testing.T) {
	for a := range 64 {
		for b, want := range kingSteps(a) {
			if got := squares.Distance(a, b); got != want {
				t.Errorf("Distance of %d and %d: %d, not %d", a, b, got, want)
			}
		}
	}
}

func TestDistanceOfNoSquare(t *testing.T) {
	none := func(a, b int) {
		if got := squares.Distance(a, b); got != -1 {
			t.Errorf("Distance of %d and %d: %d", a, b, got)
		}
	}
	for _, n := range noSquares {
		for s := range 64 {
			none(n, s)
			none(s, n)
		}
		for _, m := range noSquares {
			none(n, m)
		}
	}
}

func TestFlip(t *testing.T) {
	if squares.Flip(28) != 36 || squares.Flip(0) != 56 || squares.Flip(63) != 7 {
		t.Errorf("Flip of e4, a1, h8: %d, %d, %d", squares.Flip(28), squares.Flip(0), squares.Flip(63))
	}
	for s := range 64 {
		if got, want := squares.Flip(s), 8*(7-s/8)+s%8; got != want {
			t.Errorf("Flip of %d: %d, not %d", s, got, want)
		}
	}
	for _, s := range noSquares {
		if got := squares.Flip(s); got != -1 {
			t.Errorf("Flip of %d: %d", s, got)
		}
	}
}

// P2.4

func TestThereAndBack(t *testing.T) {
	seen := map[string]int{}
	for s := range 64 {
		if got, ok := squares.Of(squares.File(s), squares.Rank(s)); !ok || got != s {
			t.Errorf("Of File and Rank of %d: %d, %v", s, got, ok)
		}
		text := squares.Text(s)
		if got, ok := squares.Parse(text); !ok || got != s {
			t.Errorf("Parse of Text of %d: %d, %v", s, got, ok)
		}
		if other, ok := seen[text]; ok {
			t.Errorf("%d and %d have one text: %q", other, s, text)
		}
		seen[text] = s
	}
	for file := range 8 {
		for rank := range 8 {
			s, ok := squares.Of(file, rank)
			if !ok || squares.File(s) != file || squares.Rank(s) != rank {
				t.Errorf("File and Rank of Of(%d, %d): %d, %d", file, rank, squares.File(s), squares.Rank(s))
			}
		}
	}
}

// P2.5

func TestDistanceOfTwo(t *testing.T) {
	for a := range 64 {
		for b := range 64 {
			d := squares.Distance(a, b)
			if back := squares.Distance(b, a); back != d {
				t.Errorf("Distance of %d and %d: %d, and %d", a, b, d, back)
			}
			if (d == 0) != (a == b) || d < 0 || d > 7 {
				t.Errorf("Distance of %d and %d: %d", a, b, d)
			}
			if flipped := squares.Distance(squares.Flip(a), squares.Flip(b)); flipped != d {
				t.Errorf("Distance of %d and %d: %d, flipped %d", a, b, d, flipped)
			}
		}
	}
}

func TestDistanceByWayOfAThird(t *testing.T) {
	for a := range 64 {
		for b := range 64 {
			d := squares.Distance(a, b)
			for c := range 64 {
				if way := squares.Distance(a, c) + squares.Distance(c, b); d > way {
					t.Errorf("Distance of %d and %d: %d, by way of %d %d", a, b, d, c, way)
				}
			}
		}
	}
}
