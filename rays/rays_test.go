package rays_test

import (
	"math"
	"slices"
	"strings"
	"testing"

	"kibitzer/api"
	"kibitzer/bits"
	"kibitzer/rays"
	"kibitzer/squares"
)

// noSquares are numbers that are no squares: just outside, congruent to a square, and as far out as an int goes.
var noSquares = []int{-1, -2, -7, -8, -9, -63, -64, -65, 64, 65, 71, 72, 127, 128, 255, 256, 1 << 31, 1 << 32, -1 << 32, math.MinInt, math.MinInt + 1, math.MaxInt - 1, math.MaxInt}

// noDirections are numbers that are no directions, likewise.
var noDirections = []int{-1, -2, -4, -7, -8, -9, 8, 9, 12, 15, 16, 64, 255, 256, 1 << 31, 1 << 32, -1 << 32, math.MinInt, math.MinInt + 1, math.MaxInt - 1, math.MaxInt}

// leads says in files and ranks where each direction leads, apart from how the package goes.
var leads = [8]struct{ file, rank int }{{0, 1}, {1, 1}, {1, 0}, {1, -1}, {0, -1}, {-1, -1}, {-1, 0}, {-1, 1}}

// northForSouth are the directions with ranks turned about.
var northForSouth = [8]int{4, 3, 2, 1, 0, 7, 6, 5}

// told is a set as texts of squares, rising.
func told(b uint64) string {
	var l []string
	for _, s := range bits.List(b) {
		l = append(l, squares.Text(s))
	}
	return strings.Join(l, " ")
}

// at is the square of a text that is one's.
func at(text string) int { return int(text[0]-'a') + 8*int(text[1]-'1') }

// where are the squares of which that holds, told their files and ranks less those of s.
func where(s int, holds func(file, rank int) bool) uint64 {
	b := uint64(0)
	for to := range 64 {
		if holds(to%8-s%8, to/8-s/8) {
			b |= 1 << to
		}
	}
	return b
}

// onRay: whether a square so many files and ranks away is on the ray in that direction.
func onRay(dir, file, rank int) bool {
	for far := 1; far < 8; far++ {
		if file == far*leads[dir].file && rank == far*leads[dir].rank {
			return true
		}
	}
	return false
}

// direction is that in which b is on a ray of a; -1, if they are on no line.
func direction(a, b int) int {
	for dir := range 8 {
		if onRay(dir, b%8-a%8, b/8-a/8) {
			return dir
		}
	}
	return -1
}

// plainBetween goes from a to b, square by square.
func plainBetween(a, b int) uint64 {
	set := uint64(0)
	if dir := direction(a, b); dir >= 0 {
		by := leads[dir].file + 8*leads[dir].rank
		for s := a + by; s != b; s += by {
			set |= 1 << s
		}
	}
	return set
}

// plainLine are the squares on the rank, file or slant that a and b share.
func plainLine(a, b int) uint64 {
	if a == b {
		return 0
	}
	file, rank := b%8-a%8, b/8-a/8
	if file != 0 && rank != 0 && file != rank && file != -rank {
		return 0
	}
	return where(a, func(f, r int) bool { return f*rank == r*file })
}

func isOneOf(n int, l ...int) bool { return slices.Contains(l, n) }

func check(t *testing.T, what string, got, want uint64) {
	t.Helper()
	if got != want {
		t.Errorf("%s: %q, not %q", what, told(got), told(want))
	}
}

// P3.1

func TestAttackExamples(t *testing.T) {
	for _, c := range []struct {
		name string
		got  uint64
		want string
	}{
		{"Knight a1", rays.Knight(at("a1")), "c2 b3"},
		{"Knight h1", rays.Knight(at("h1")), "f2 g3"},
		{"Knight a8", rays.Knight(at("a8")), "b6 c7"},
		{"Knight h8", rays.Knight(at("h8")), "g6 f7"},
		{"Knight b2", rays.Knight(at("b2")), "d1 d3 a4 c4"},
		{"Knight g7", rays.Knight(at("g7")), "f5 h5 e6 e8"},
		{"Knight e4", rays.Knight(at("e4")), "d2 f2 c3 g3 c5 g5 d6 f6"},
		{"King a1", rays.King(at("a1")), "b1 a2 b2"},
		{"King h8", rays.King(at("h8")), "g7 h7 g8"},
		{"King h4", rays.King(at("h4")), "g3 h3 g4 g5 h5"},
		{"King e4", rays.King(at("e4")), "d3 e3 f3 d4 f4 d5 e5 f5"},
		{"white Pawn a2", rays.Pawn(api.White, at("a2")), "b3"},
		{"white Pawn h2", rays.Pawn(api.White, at("h2")), "g3"},
		{"white Pawn e1", rays.Pawn(api.White, at("e1")), "d2 f2"},
		{"white Pawn h8", rays.Pawn(api.White, at("h8")), ""},
		{"black Pawn e4", rays.Pawn(api.Black, at("e4")), "d3 f3"},
		{"black Pawn a7", rays.Pawn(api.Black, at("a7")), "b6"},
		{"black Pawn h7", rays.Pawn(api.Black, at("h7")), "g6"},
		{"black Pawn d1", rays.Pawn(api.Black, at("d1")), ""},
	} {
		if got := told(c.got); got != c.want {
			t.Errorf("%s: %q, not %q", c.name, got, c.want)
		}
	}
}

func TestKnightOfAllSquares(t *testing.T) {
	for s := range 64 {
		check(t, "Knight "+squares.Text(s), rays.Knight(s), where(s, func(file, rank int) bool {
			return isOneOf(file, 1, -1) && isOneOf(rank, 2, -2) || isOneOf(file, 2, -2) && isOneOf(rank, 1, -1)
		}))
	}
}

func TestKingOfAllSquares(t *testing.T) {
	for s := range 64 {
		check(t, "King "+squares.Text(s), rays.King(s), where(s, func(file, rank int) bool {
			return isOneOf(file, -1, 0, 1) && isOneOf(rank, -1, 0, 1) && (file != 0 || rank != 0)
		}))
	}
}

func TestPawnOfAllSquares(t *testing.T) {
	for s := range 64 {
		check(t, "white Pawn "+squares.Text(s), rays.Pawn(api.White, s), where(s, func(file, rank int) bool {
			return isOneOf(file, -1, 1) && rank == 1
		}))
		check(t, "black Pawn "+squares.Text(s), rays.Pawn(api.Black, s), where(s, func(file, rank int) bool {
			return isOneOf(file, -1, 1) && rank == -1
		}))
	}
}

func TestAttacksOfNoSquare(t *testing.T) {
	for _, s := range noSquares {
		if rays.Knight(s) != 0 || rays.King(s) != 0 {
			t.Errorf("Knight and King of %d: %q, %q", s, told(rays.Knight(s)), told(rays.King(s)))
		}
		for color := range 256 {
			if got := rays.Pawn(uint8(color), s); got != 0 {
				t.Errorf("Pawn of %d, of color %d: %q", s, color, told(got))
			}
		}
	}
}

func TestPawnOfNoColor(t *testing.T) {
	for color := 2; color < 256; color++ {
		for s := range 64 {
			if got := rays.Pawn(uint8(color), s); got != 0 {
				t.Errorf("Pawn of %d, of color %d: %q", s, color, told(got))
			}
		}
	}
}

// P3.2

func TestRayExamples(t *testing.T) {
	for _, c := range []struct {
		from string
		dir  int
		want string
	}{
		{"a1", 1, "b2 c3 d4 e5 f6 g7 h8"},
		{"e4", 0, "e5 e6 e7 e8"},
		{"e4", 1, "f5 g6 h7"},
		{"e4", 2, "f4 g4 h4"},
		{"e4", 3, "h1 g2 f3"},
		{"e4", 4, "e1 e2 e3"},
		{"e4", 5, "b1 c2 d3"},
		{"e4", 6, "a4 b4 c4 d4"},
		{"e4", 7, "d5 c6 b7 a8"},
		{"h1", 2, ""},
		{"h1", 7, "g2 f3 e4 d5 c6 b7 a8"},
	} {
		if got := told(rays.Ray(at(c.from), c.dir)); got != c.want {
			t.Errorf("Ray of %s by %d: %q, not %q", c.from, c.dir, got, c.want)
		}
	}
}

func TestRayOfAllSquares(t *testing.T) {
	for s := range 64 {
		for dir := range 8 {
			got := rays.Ray(s, dir)
			check(t, "Ray "+squares.Text(s), got, where(s, func(file, rank int) bool { return onRay(dir, file, rank) }))
			if bits.Has(got, s) {
				t.Errorf("Ray of %d by %d has the square itself", s, dir)
			}
		}
	}
}

func TestRayAtTheEdge(t *testing.T) {
	for i := range 8 {
		for _, c := range []struct {
			s    int
			dirs []int
		}{
			{56 + i, []int{7, 0, 1}},
			{8*i + 7, []int{1, 2, 3}},
			{i, []int{3, 4, 5}},
			{8 * i, []int{5, 6, 7}},
		} {
			for _, dir := range c.dirs {
				if got := rays.Ray(c.s, dir); got != 0 {
					t.Errorf("Ray of %d by %d: %q", c.s, dir, told(got))
				}
			}
		}
	}
}

func TestRayOfNoSquareOrDirection(t *testing.T) {
	none := func(s, dir int) {
		if got := rays.Ray(s, dir); got != 0 {
			t.Errorf("Ray of %d by %d: %q", s, dir, told(got))
		}
	}
	for _, dir := range noDirections {
		for s := range 64 {
			none(s, dir)
		}
		for _, s := range noSquares {
			none(s, dir)
		}
	}
	for _, s := range noSquares {
		for dir := range 8 {
			none(s, dir)
		}
	}
}

// P3.3

func TestBetweenAndLineExamples(t *testing.T) {
	for _, c := range []struct{ a, b, between, line string }{
		{"a1", "d4", "b2 c3", "a1 b2 c3 d4 e5 f6 g7 h8"},
		{"a1", "b2", "", "a1 b2 c3 d4 e5 f6 g7 h8"},
		{"a1", "b3", "", ""},
		{"a1", "a1", "", ""},
		{"e4", "e5", "", "e1 e2 e3 e4 e5 e6 e7 e8"},
		{"h4", "e4", "f4 g4", "a4 b4 c4 d4 e4 f4 g4 h4"},
		{"a8", "h1", "g2 f3 e4 d5 c6 b7", "h1 g2 f3 e4 d5 c6 b7 a8"},
		{"b3", "a2", "", "a2 b3 c4 d5 e6 f7 g8"},
		{"a7", "b8", "", "a7 b8"},
		{"c8", "c1", "c2 c3 c4 c5 c6 c7", "c1 c2 c3 c4 c5 c6 c7 c8"},
		{"h1", "a2", "", ""},
		{"h3", "a4", "", ""},
		{"d4", "f5", "", ""},
	} {
		a, b := at(c.a), at(c.b)
		if got := told(rays.Between(a, b)); got != c.between {
			t.Errorf("Between %s and %s: %q, not %q", c.a, c.b, got, c.between)
		}
		if got := told(rays.Line(a, b)); got != c.line {
			t.Errorf("Line of %s and %s: %q, not %q", c.a, c.b, got, c.line)
		}
	}
}

func TestBetweenAndLineOfEveryTwo(t *testing.T) {
	for a := range 64 {
		for b := range 64 {
			name := squares.Text(a) + " " + squares.Text(b)
			check(t, "Between "+name, rays.Between(a, b), plainBetween(a, b))
			check(t, "Line "+name, rays.Line(a, b), plainLine(a, b))
		}
	}
}

func TestBetweenAndLineOfOneAlone(t *testing.T) {
	for s := range 64 {
		if rays.Between(s, s) != 0 || rays.Line(s, s) != 0 {
			t.Errorf("of %d and itself: %q, %q", s, told(rays.Between(s, s)), told(rays.Line(s, s)))
		}
	}
}

func TestBetweenAndLineOfNoSquare(t *testing.T) {
	none := func(a, b int) {
		if rays.Between(a, b) != 0 || rays.Line(a, b) != 0 {
			t.Errorf("of %d and %d: %q, %q", a, b, told(rays.Between(a, b)), told(rays.Line(a, b)))
		}
	}
	for _, n := range noSquares {
		for s := range 64 {
			none(n, s)
			none(s, n)
		}
		for _, m := range noSquares {
			none(n, m)
		}
	}
}

// P3.4

func TestAttacksTurnedAbout(t *testing.T) {
	for a := range 64 {
		for b := range 64 {
			if bits.Has(rays.King(a), b) != bits.Has(rays.King(b), a) {
				t.Errorf("kings on %d and %d", a, b)
			}
			if bits.Has(rays.Knight(a), b) != bits.Has(rays.Knight(b), a) {
				t.Errorf("knights on %d and %d", a, b)
			}
			if bits.Has(rays.Pawn(api.White, a), b) != bits.Has(rays.Pawn(api.Black, b), a) {
				t.Errorf("a white pawn on %d and a black one on %d", a, b)
			}
		}
	}
}

func TestBetweenAndLineTurnedAbout(t *testing.T) {
	for a := range 64 {
		for b := range 64 {
			name := squares.Text(a) + " " + squares.Text(b)
			check(t, "Between "+name, rays.Between(a, b), rays.Between(b, a))
			check(t, "Line "+name, rays.Line(a, b), rays.Line(b, a))
		}
	}
}

// P3.5

func TestSquaresOfALineHaveIt(t *testing.T) {
	for a := range 64 {
		for b := range 64 {
			line := rays.Line(a, b)
			for _, c := range bits.List(line) {
				for _, d := range bits.List(line) {
					if c != d && rays.Line(c, d) != line {
						t.Errorf("Line of %d and %d, on that of %d and %d: %q", c, d, a, b, told(rays.Line(c, d)))
					}
				}
			}
		}
	}
}

func TestBetweenIsPartOfTheLine(t *testing.T) {
	for a := range 64 {
		for b := range 64 {
			between, line := rays.Between(a, b), rays.Line(a, b)
			if between&^line != 0 || bits.Has(between, a) || bits.Has(between, b) {
				t.Errorf("Between %d and %d: %q, of %q", a, b, told(between), told(line))
			}
			if line != 0 && (!bits.Has(line, a) || !bits.Has(line, b)) {
				t.Errorf("Line of %d and %d is without them: %q", a, b, told(line))
			}
			if line != 0 && bits.Count(between) != squares.Distance(a, b)-1 {
				t.Errorf("Between %d and %d: %q", a, b, told(between))
			}
		}
	}
}

// P3.6

func TestAttacksFlipped(t *testing.T) {
	for s := range 64 {
		name, flipped := squares.Text(s), squares.Flip(s)
		check(t, "Knight "+name, bits.Flip(rays.Knight(s)), rays.Knight(flipped))
		check(t, "King "+name, bits.Flip(rays.King(s)), rays.King(flipped))
		check(t, "white Pawn "+name, bits.Flip(rays.Pawn(api.White, s)), rays.Pawn(api.Black, flipped))
		check(t, "black Pawn "+name, bits.Flip(rays.Pawn(api.Black, s)), rays.Pawn(api.White, flipped))
		for dir, other := range northForSouth {
			check(t, "Ray "+name, bits.Flip(rays.Ray(s, dir)), rays.Ray(flipped, other))
		}
	}
}

func TestBetweenAndLineFlipped(t *testing.T) {
	for a := range 64 {
		for b := range 64 {
			name := squares.Text(a) + " " + squares.Text(b)
			check(t, "Between "+name, bits.Flip(rays.Between(a, b)), rays.Between(squares.Flip(a), squares.Flip(b)))
			check(t, "Line "+name, bits.Flip(rays.Line(a, b)), rays.Line(squares.Flip(a), squares.Flip(b)))
		}
	}
}
