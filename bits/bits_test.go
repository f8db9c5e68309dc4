package bits_test

import (
	"math"
	"slices"
	"testing"

	"kibitzer/bits"
)

const (
	none uint64 = 0
	full uint64 = math.MaxUint64
)

// noSquares are numbers that are no squares: just outside, congruent to a square, and as far out as an int goes.
var noSquares = []int{-1, -2, -8, -63, -64, 64, 65, 72, 127, 128, 1 << 32, math.MinInt, math.MinInt + 1, math.MaxInt}

// noDirections are numbers that are no directions.
var noDirections = []int{-1, -2, -7, -8, 8, 9, 16, 64, 256, 1 << 32, math.MinInt, math.MaxInt}

// steps says in files and ranks where each direction leads, apart from how the package holds it.
var steps = [8]struct{ file, rank int }{{0, 1}, {1, 1}, {1, 0}, {1, -1}, {0, -1}, {-1, -1}, {-1, 0}, {-1, 1}}

func set(l ...int) uint64 {
	b := none
	for _, s := range l {
		b |= 1 << s
	}
	return b
}

func file(f int) uint64 {
	b := none
	for rank := range 8 {
		b |= set(8*rank + f)
	}
	return b
}

func rank(r int) uint64 {
	b := none
	for f := range 8 {
		b |= set(8*r + f)
	}
	return b
}

// sets are the empty one, the full one, all of one square, all but one, files, ranks, and mixed ones.
func sets() []uint64 {
	l := []uint64{none, full}
	for s := range 64 {
		l = append(l, set(s), ^set(s))
	}
	for i := range 8 {
		l = append(l, file(i), rank(i))
	}
	mixed := uint64(0x9e3779b97f4a7c15)
	for range 64 {
		l = append(l, mixed, mixed&(mixed>>7), mixed|(mixed<<11))
		mixed = mixed*6364136223846793005 + 1442695040888963407
	}
	return l
}

// stepped is where a step leads; false, if off the board.
func stepped(s, dir int) (int, bool) {
	f, r := s%8+steps[dir].file, s/8+steps[dir].rank
	return 8*r + f, f >= 0 && f < 8 && r >= 0 && r < 8
}

// P1.1

func TestHas(t *testing.T) {
	b := set(0, 2)
	for s, want := range map[int]bool{0: true, 1: false, 2: true, 3: false, 63: false, 64: false, -1: false} {
		if got := bits.Has(b, s); got != want {
			t.Errorf("Has of 0 and 2 at %d: %v", s, got)
		}
	}
	for s := range 64 {
		if bits.Has(none, s) || !bits.Has(full, s) || !bits.Has(set(s), s) || bits.Has(^set(s), s) {
			t.Errorf("Has at %d", s)
		}
	}
}

func TestPutClear(t *testing.T) {
	if got := bits.Put(none, 63); got != 1<<63 {
		t.Errorf("Put of none at 63: %x", got)
	}
	if got := bits.Clear(1<<63, 63); got != none {
		t.Errorf("Clear at 63: %x", got)
	}
	for s := range 64 {
		if bits.Put(none, s) != set(s) || bits.Put(set(s), s) != set(s) || bits.Put(full, s) != full {
			t.Errorf("Put at %d", s)
		}
		if bits.Clear(full, s) != ^set(s) || bits.Clear(set(s), s) != none || bits.Clear(none, s) != none {
			t.Errorf("Clear at %d", s)
		}
	}
}

func TestNoSquare(t *testing.T) {
	for _, b := range sets() {
		for _, s := range noSquares {
			if bits.Has(b, s) {
				t.Errorf("Has of %x at %d", b, s)
			}
			if got := bits.Put(b, s); got != b {
				t.Errorf("Put of %x at %d: %x", b, s, got)
			}
			if got := bits.Clear(b, s); got != b {
				t.Errorf("Clear of %x at %d: %x", b, s, got)
			}
		}
	}
}

// P1.2

func TestCountFirstList(t *testing.T) {
	for _, c := range []struct {
		b            uint64
		count, first int
		list         []int
	}{
		{none, 0, -1, nil},
		{set(0, 2, 63), 3, 0, []int{0, 2, 63}},
		{set(0), 1, 0, []int{0}},
		{set(63), 1, 63, []int{63}},
		{set(7, 56), 2, 7, []int{7, 56}},
		{rank(7), 8, 56, []int{56, 57, 58, 59, 60, 61, 62, 63}},
		{file(0), 8, 0, []int{0, 8, 16, 24, 32, 40, 48, 56}},
		{file(7), 8, 7, []int{7, 15, 23, 31, 39, 47, 55, 63}},
	} {
		if got := bits.Count(c.b); got != c.count {
			t.Errorf("Count of %x: %d", c.b, got)
		}
		if got := bits.First(c.b); got != c.first {
			t.Errorf("First of %x: %d", c.b, got)
		}
		if got := bits.List(c.b); !slices.Equal(got, c.list) {
			t.Errorf("List of %x: %v", c.b, got)
		}
	}
}

func TestCountFirstListOfFull(t *testing.T) {
	l := bits.List(full)
	if bits.Count(full) != 64 || bits.First(full) != 0 || len(l) != 64 {
		t.Fatalf("Count %d, First %d, List %v", bits.Count(full), bits.First(full), l)
	}
	for i, s := range l {
		if s != i {
			t.Errorf("List of the full set at %d: %d", i, s)
		}
	}
}

func TestListIsNewMemory(t *testing.T) {
	b := set(3, 5, 40)
	l := bits.List(b)
	spare := l[:cap(l)]
	for i := range spare {
		spare[i] = -1
	}
	if got := bits.List(b); !slices.Equal(got, []int{3, 5, 40}) {
		t.Errorf("List behind a changed answer: %v", got)
	}
}

// P1.3

func TestShiftExamples(t *testing.T) {
	for _, c := range []struct {
		name   string
		s, dir int
		want   uint64
	}{
		{"h1 east", 7, 2, none},
		{"h1 north", 7, 0, set(15)},
		{"a1 south-west", 0, 5, none},
		{"b2 north-west", 9, 7, set(16)},
		{"a1 by 8", 0, 8, none},
	} {
		if got := bits.Shift(set(c.s), c.dir); got != c.want {
			t.Errorf("%s: %x", c.name, got)
		}
	}
}

func TestShiftOfEachSquare(t *testing.T) {
	for s := range 64 {
		for dir := range 8 {
			want := none
			if to, ok := stepped(s, dir); ok {
				want = set(to)
			}
			if got := bits.Shift(set(s), dir); got != want {
				t.Errorf("Shift of %d by %d: %v", s, dir, bits.List(got))
			}
		}
	}
}

func TestShiftOfEdges(t *testing.T) {
	for _, c := range []struct {
		edge uint64
		dirs []int
	}{
		{rank(7), []int{7, 0, 1}},
		{file(7), []int{1, 2, 3}},
		{rank(0), []int{3, 4, 5}},
		{file(0), []int{5, 6, 7}},
	} {
		for _, dir := range c.dirs {
			if got := bits.Shift(c.edge, dir); got != none {
				t.Errorf("Shift of %x by %d: %x", c.edge, dir, got)
			}
		}
	}
	for dir, want := range [8]uint64{^rank(0), ^(rank(0) | file(0)), ^file(0), ^(rank(7) | file(0)), ^rank(7), ^(rank(7) | file(7)), ^file(7), ^(rank(0) | file(7))} {
		if got := bits.Shift(full, dir); got != want {
			t.Errorf("Shift of the full set by %d: %x", dir, got)
		}
		if got := bits.Shift(none, dir); got != none {
			t.Errorf("Shift of none by %d: %x", dir, got)
		}
	}
}

func TestShiftOfNoDirection(t *testing.T) {
	for _, b := range sets() {
		for _, dir := range noDirections {
			if got := bits.Shift(b, dir); got != none {
				t.Errorf("Shift of %x by %d: %x", b, dir, got)
			}
		}
	}
}

func TestFlip(t *testing.T) {
	for s := range 64 {
		if got, want := bits.Flip(set(s)), set(8*(7-s/8)+s%8); got != want {
			t.Errorf("Flip of %d: %v", s, bits.List(got))
		}
	}
	if got := bits.Flip(set(0, 27)); got != set(56, 35) {
		t.Errorf("Flip of a1 and d4: %v", bits.List(got))
	}
	if bits.Flip(none) != none || bits.Flip(full) != full {
		t.Errorf("Flip of none, of the full set")
	}
	for i := range 8 {
		if bits.Flip(file(i)) != file(i) || bits.Flip(rank(i)) != rank(7-i) {
			t.Errorf("Flip of file and rank %d", i)
		}
	}
}

// P1.4

func TestPutAndClearChangeOneSquare(t *testing.T) {
	for _, b := range sets() {
		for s := range 64 {
			put, cleared := bits.Put(b, s), bits.Clear(b, s)
			for other := range 64 {
				had := bits.Has(b, other)
				if bits.Has(put, other) != (had || other == s) {
					t.Errorf("Put of %x at %d: %d", b, s, other)
				}
				if bits.Has(cleared, other) != (had && other != s) {
					t.Errorf("Clear of %x at %d: %d", b, s, other)
				}
			}
		}
	}
}

func TestSetIsThatOfItsList(t *testing.T) {
	for _, b := range sets() {
		l := bits.List(b)
		if bits.Count(b) != len(l) {
			t.Errorf("Count of %x: %d, List %v", b, bits.Count(b), l)
		}
		if set(l...) != b {
			t.Errorf("List of %x: %v", b, l)
		}
		for i := 1; i < len(l); i++ {
			if l[i-1] >= l[i] {
				t.Errorf("List of %x is not rising: %v", b, l)
			}
		}
		if len(l) > 0 && bits.First(b) != l[0] || len(l) == 0 && bits.First(b) != -1 {
			t.Errorf("First of %x: %d, List %v", b, bits.First(b), l)
		}
	}
}

// P1.5

func TestStepsLeadBack(t *testing.T) {
	for _, b := range sets() {
		for dir := range 8 {
			stayed := none
			for s := range 64 {
				if _, ok := stepped(s, dir); ok && b>>s&1 == 1 {
					stayed |= set(s)
				}
			}
			if got := bits.Shift(bits.Shift(b, dir), (dir+4)%8); got != stayed {
				t.Errorf("Shift of %x by %d and back: %x, not %x", b, dir, got, stayed)
			}
		}
	}
}

func TestShiftOfTwoSetsTogether(t *testing.T) {
	l := sets()
	for i, a := range l {
		b := l[(i*7+3)%len(l)]
		for dir := -1; dir <= 8; dir++ {
			if bits.Shift(a|b, dir) != bits.Shift(a, dir)|bits.Shift(b, dir) {
				t.Errorf("Shift of %x and %x by %d", a, b, dir)
			}
		}
	}
}

// P1.6

func TestFlipOfFlip(t *testing.T) {
	for _, b := range sets() {
		if got := bits.Flip(bits.Flip(b)); got != b {
			t.Errorf("Flip of Flip of %x: %x", b, got)
		}
	}
}

func TestFlipTurnsSteps(t *testing.T) {
	turned := [8]int{4, 3, 2, 1, 0, 7, 6, 5}
	for _, b := range sets() {
		for dir := range 8 {
			if bits.Flip(bits.Shift(b, dir)) != bits.Shift(bits.Flip(b), turned[dir]) {
				t.Errorf("Flip of Shift of %x by %d", b, dir)
			}
		}
	}
}
