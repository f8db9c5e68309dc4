package slides_test

import (
	"math"
	"strings"
	"testing"

	"kibitzer/bits"
	"kibitzer/rays"
	"kibitzer/slides"
	"kibitzer/squares"
)

const (
	none uint64 = 0
	full uint64 = math.MaxUint64
)

// noSquares are numbers that are no squares: just outside, congruent to a square, and as far out as an int goes.
var noSquares = []int{-1, -2, -7, -8, -9, -63, -64, -65, 64, 65, 71, 72, 127, 128, 255, 256, 1 << 31, 1 << 32, -1 << 32, math.MinInt, math.MinInt + 1, math.MaxInt - 1, math.MaxInt}

// noDirections are numbers that are no directions, likewise.
var noDirections = []int{-1, -2, -4, -7, -8, -9, 8, 9, 12, 15, 16, 64, 255, 256, 1 << 31, 1 << 32, -1 << 32, math.MinInt, math.MinInt + 1, math.MaxInt - 1, math.MaxInt}

// leads says in files and ranks where each direction leads, apart from how the package goes.
var leads = [8]struct{ file, rank int }{{0, 1}, {1, 1}, {1, 0}, {1, -1}, {0, -1}, {-1, -1}, {-1, 0}, {-1, 1}}

// northForSouth are the directions with ranks turned about.
var northForSouth = [8]int{4, 3, 2, 1, 0, 7, 6, 5}

// pieces are the three that slide, each with its directions.
var pieces = []struct {
	name  string
	slide func(s int, occ uint64) uint64
	dirs  []int
}{
	{"Rook", slides.Rook, []int{0, 2, 4, 6}},
	{"Bishop", slides.Bishop, []int{1, 3, 5, 7}},
	{"Queen", slides.Queen, []int{0, 1, 2, 3, 4, 5, 6, 7}},
}

// told is a set as texts of squares, rising.
func told(b uint64) string {
	var l []string
	for _, s := range bits.List(b) {
		l = append(l, squares.Text(s))
	}
	return strings.Join(l, " ")
}

// at is the square of a text that is one's; of is the set of several.
func at(text string) int { return int(text[0]-'a') + 8*int(text[1]-'1') }

func of(texts string) uint64 {
	b := none
	for _, text := range strings.Fields(texts) {
		b |= 1 << at(text)
	}
	return b
}

// way are the squares from s in that direction up to the edge, the nearest one first.
func way(s, dir int) []int {
	var l []int
	for f, r := s%8+leads[dir].file, s/8+leads[dir].rank; f >= 0 && f < 8 && r >= 0 && r < 8; f, r = f+leads[dir].file, r+leads[dir].rank {
		l = append(l, 8*r+f)
	}
	return l
}

// plain is what is seen, reckoned square by square.
func plain(s, dir int, occ uint64) uint64 {
	b := none
	for _, to := range way(s, dir) {
		b |= 1 << to
		if occ>>to&1 == 1 {
			break
		}
	}
	return b
}

// plainAll is what is seen in several directions.
func plainAll(s int, occ uint64, dirs []int) uint64 {
	b := none
	for _, dir := range dirs {
		b |= plain(s, dir, occ)
	}
	return b
}

// boards are nothing occupied, all, one square alone, all but one, files, ranks, and mixed ones, crowded and thin.
func boards() []uint64 {
	l := []uint64{none, full, 0x00ff00000000ff00, 0x55aa55aa55aa55aa, 0x8142241818244281}
	for s := range 64 {
		l = append(l, 1<<s, ^(1 << s))
	}
	for i := range 8 {
		l = append(l, 0xff<<(8*i), 0x0101010101010101<<i)
	}
	return append(l, mixed(40)...)
}

// mixed are three times so many boards without order: half, a quarter and three quarters of them occupied, or so.
func mixed(n int) []uint64 {
	var l []uint64
	seed := uint64(0x9e3779b97f4a7c15)
	next := func() uint64 {
		seed = seed*6364136223846793005 + 1442695040888963407
		return seed ^ seed>>29
	}
	for range n {
		a, b := next(), next()
		l = append(l, a, a&b, a|b)
	}
	return l
}

func check(t *testing.T, what string, s, dir int, occ, got, want uint64) {
	t.Helper()
	if got != want {
		t.Errorf("%s of %d by %d, occupied %x: %q, not %q", what, s, dir, occ, told(got), told(want))
	}
}

// P4.1

func TestDirExamples(t *testing.T) {
	for _, c := range []struct {
		from      string
		dir       int
		occ, want string
	}{
		{"a1", 0, "a4 a6", "a2 a3 a4"},
		{"a4", 0, "a4", "a5 a6 a7 a8"},
		{"a4", 4, "a4", "a1 a2 a3"},
		{"a8", 4, "a4 a6", "a6 a7"},
		{"e4", 0, "e6 e7", "e5 e6"},
		{"e4", 1, "g6 h7", "f5 g6"},
		{"e4", 2, "g4 h4", "f4 g4"},
		{"e4", 3, "g2 h1", "g2 f3"},
		{"e4", 4, "e1 e2", "e2 e3"},
		{"e4", 5, "c2 b1", "c2 d3"},
		{"e4", 6, "b4 c4", "c4 d4"},
		{"e4", 7, "c6 b7", "d5 c6"},
		{"e4", 2, "b4 c4", "f4 g4 h4"},
		{"e4", 0, "e5", "e5"},
		{"e4", 4, "e3", "e3"},
		{"e4", 0, "e8", "e5 e6 e7 e8"},
		{"e4", 3, "h1", "h1 g2 f3"},
		{"h4", 2, "a5", ""},
		{"a4", 6, "h3", ""},
		{"a1", 1, "", "b2 c3 d4 e5 f6 g7 h8"},
		{"h8", 5, "a1", "a1 b2 c3 d4 e5 f6 g7"},
	} {
		if got := told(slides.Dir(at(c.from), c.dir, of(c.occ))); got != c.want {
			t.Errorf("Dir of %s by %d, occupied %s: %q, not %q", c.from, c.dir, c.occ, got, c.want)
		}
	}
}

// Every way in which a ray may be occupied, with nothing, all or some of the squares off it occupied, too.
func TestDirOfAllRays(t *testing.T) {
	off := append(mixed(1), none, full)
	for s := range 64 {
		for dir := range 8 {
			l := way(s, dir)
			ray := plain(s, dir, none)
			for some := range 1 << len(l) {
				on := none
				for i, to := range l {
					on |= uint64(some>>i&1) << to
				}
				for _, others := range off {
					occ := on | others&^ray
					check(t, "Dir", s, dir, occ, slides.Dir(s, dir, occ), plain(s, dir, occ))
				}
			}
		}
	}
}

func TestDirWithNothingAndAllOccupied(t *testing.T) {
	for s := range 64 {
		for dir := range 8 {
			check(t, "Dir", s, dir, none, slides.Dir(s, dir, none), rays.Ray(s, dir))
			check(t, "Dir", s, dir, full, slides.Dir(s, dir, full), bits.Shift(1<<s, dir))
		}
	}
}

func TestTwoOnOneRay(t *testing.T) {
	for s := range 64 {
		for dir := range 8 {
			l := way(s, dir)
			for i := range l {
				near := none
				for _, to := range l[:i+1] {
					near |= 1 << to
				}
				for _, far := range l[i+1:] {
					occ := uint64(1)<<l[i] | 1<<far
					check(t, "Dir", s, dir, occ, slides.Dir(s, dir, occ), near)
				}
			}
		}
	}
}

func TestItselfOccupiedOrNot(t *testing.T) {
	for _, occ := range boards() {
		for s := range 64 {
			with, without := occ|1<<s, occ&^(1<<s)
			for dir := range 8 {
				check(t, "Dir", s, dir, with, slides.Dir(s, dir, with), slides.Dir(s, dir, without))
			}
			for _, p := range pieces {
				check(t, p.name, s, -1, with, p.slide(s, with), p.slide(s, without))
			}
		}
	}
}

func TestOffTheRay(t *testing.T) {
	for s := range 64 {
		for dir := range 8 {
			off := ^rays.Ray(s, dir)
			check(t, "Dir", s, dir, off, slides.Dir(s, dir, off), rays.Ray(s, dir))
			for _, one := range bits.List(off) {
				check(t, "Dir", s, dir, 1<<one, slides.Dir(s, dir, 1<<one), rays.Ray(s, dir))
			}
		}
	}
}

func TestDirOfNoSquareOrDirection(t *testing.T) {
	for _, occ := range boards() {
		for _, dir := range noDirections {
			for s := range 64 {
				check(t, "Dir", s, dir, occ, slides.Dir(s, dir, occ), none)
			}
			for _, s := range noSquares {
				check(t, "Dir", s, dir, occ, slides.Dir(s, dir, occ), none)
			}
		}
		for _, s := range noSquares {
			for dir := range 8 {
				check(t, "Dir", s, dir, occ, slides.Dir(s, dir, occ), none)
			}
		}
	}
}

// P4.2

func TestPieceExamples(t *testing.T) {
	for _, c := range []struct {
		name string
		got  uint64
		want string
	}{
		{"Rook a1", slides.Rook(at("a1"), of("c1 a2")), "b1 c1 a2"},
		{"Rook d4", slides.Rook(at("d4"), of("d2 d6 b4 g4")), "d2 d3 b4 c4 e4 f4 g4 d5 d6"},
		{"Rook d4, slants occupied", slides.Rook(at("d4"), of("c3 e5 c5 e3")), "d1 d2 d3 a4 b4 c4 e4 f4 g4 h4 d5 d6 d7 d8"},
		{"Bishop c1", slides.Bishop(at("c1"), none), "b2 d2 a3 e3 f4 g5 h6"},
		{"Bishop d4", slides.Bishop(at("d4"), of("c3 f6 c5 f2 a1")), "f2 c3 e3 c5 e5 f6"},
		{"Bishop d4, rank and file occupied", slides.Bishop(at("d4"), of("c4 e4 d3 d5")), "a1 g1 b2 f2 c3 e3 c5 e5 b6 f6 a7 g7 h8"},
		{"Queen h1", slides.Queen(at("h1"), of("g2 h2 g1")), "g1 g2 h2"},
		{"Queen a8", slides.Queen(at("a8"), of("a6 c8 d5")), "d5 a6 c6 a7 b7 b8 c8"},
	} {
		if got := told(c.got); got != c.want {
			t.Errorf("%s: %q, not %q", c.name, got, c.want)
		}
	}
}

func TestPiecesOfAllSquares(t *testing.T) {
	for _, occ := range boards() {
		for s := range 64 {
			for _, p := range pieces {
				check(t, p.name, s, -1, occ, p.slide(s, occ), plainAll(s, occ, p.dirs))
			}
		}
	}
}

func TestPiecesOnAnEmptyBoard(t *testing.T) {
	for s := range 64 {
		if got := bits.Count(slides.Rook(s, none)); got != 14 {
			t.Errorf("Rook of %d sees %d squares", s, got)
		}
		ring := min(s%8, 7-s%8, s/8, 7-s/8)
		if got := bits.Count(slides.Bishop(s, none)); got != 7+2*ring {
			t.Errorf("Bishop of %d sees %d squares", s, got)
		}
	}
}

func TestPiecesWithAllOccupied(t *testing.T) {
	for s := range 64 {
		check(t, "Queen", s, -1, full, slides.Queen(s, full), rays.King(s))
	}
}

func TestPiecesOfNoSquare(t *testing.T) {
	for _, occ := range boards() {
		for _, s := range noSquares {
			for _, p := range pieces {
				check(t, p.name, s, -1, occ, p.slide(s, occ), none)
			}
		}
	}
}

// P4.3

func TestSeenBack(t *testing.T) {
	for _, occ := range mixed(8) {
		for a := range 64 {
			for b := range 64 {
				there := slides.Queen(a, occ)>>b&1 == 1
				open := rays.Line(a, b) != 0 && rays.Between(a, b)&occ == 0
				if there != open {
					t.Errorf("Queen of %d sees %d, occupied %x: %v", a, b, occ, there)
				}
				for _, p := range pieces {
					if bits.Has(p.slide(a, occ), b) != bits.Has(p.slide(b, occ), a) {
						t.Errorf("%s of %d and %d, occupied %x", p.name, a, b, occ)
					}
				}
			}
		}
	}
}

func TestSeenBackInTheOppositeDirection(t *testing.T) {
	for _, occ := range boards() {
		for a := range 64 {
			for dir := range 8 {
				for _, b := range way(a, dir) {
					there := bits.Has(slides.Dir(a, dir, occ), b)
					back := bits.Has(slides.Dir(b, (dir+4)%8, occ), a)
					if open := rays.Between(a, b)&occ == 0; there != open || back != open {
						t.Errorf("%d sees %d, and back, occupied %x: %v, %v", a, b, occ, there, back)
					}
				}
			}
		}
	}
}

func TestSeenWhateverIsOccupiedAtBoth(t *testing.T) {
	for _, occ := range mixed(4) {
		for a := range 64 {
			for b := range 64 {
				ends := uint64(1)<<a | 1<<b
				want := bits.Has(slides.Queen(a, occ), b)
				for _, at := range []uint64{none, 1 << a, 1 << b, ends} {
					if bits.Has(slides.Queen(a, occ&^ends|at), b) != want {
						t.Errorf("Queen of %d sees %d, occupied %x, at both %x", a, b, occ, at)
					}
				}
			}
		}
	}
}

// P4.4

func TestOneMoreOccupied(t *testing.T) {
	for _, occ := range append(mixed(4), none, full) {
		for s := range 64 {
			for dir := range 8 {
				had := slides.Dir(s, dir, occ)
				for more := range 64 {
					got := slides.Dir(s, dir, occ|1<<more)
					behind := none
					if bits.Has(rays.Ray(s, dir), more) {
						behind = rays.Ray(more, dir)
					}
					check(t, "Dir", s, dir, occ|1<<more, got, had&^behind)
				}
			}
		}
	}
}

func TestPiecesWithOneMoreOccupied(t *testing.T) {
	for _, occ := range append(mixed(4), none, full) {
		for s := range 64 {
			for _, p := range pieces {
				had := p.slide(s, occ)
				for more := range 64 {
					got := p.slide(s, occ|1<<more)
					if got&^had != 0 {
						t.Errorf("%s of %d, occupied %x and %d: %q more", p.name, s, occ, more, told(got&^had))
					}
					for _, lost := range bits.List(had &^ got) {
						if !bits.Has(rays.Between(s, lost), more) {
							t.Errorf("%s of %d, occupied %x and %d: without %d", p.name, s, occ, more, lost)
						}
					}
				}
			}
		}
	}
}

func TestWholeRaysWithNothingOccupied(t *testing.T) {
	for s := range 64 {
		for _, p := range pieces {
			want := none
			for _, dir := range p.dirs {
				want |= rays.Ray(s, dir)
			}
			check(t, p.name, s, -1, none, p.slide(s, none), want)
		}
	}
}

// P4.5

func TestFlipped(t *testing.T) {
	for _, occ := range boards() {
		turned := bits.Flip(occ)
		for s := range 64 {
			to := squares.Flip(s)
			for dir, other := range northForSouth {
				check(t, "flipped Dir", s, dir, occ, bits.Flip(slides.Dir(s, dir, occ)), slides.Dir(to, other, turned))
			}
			for _, p := range pieces {
				check(t, "flipped "+p.name, s, -1, occ, bits.Flip(p.slide(s, occ)), p.slide(to, turned))
			}
		}
	}
}
