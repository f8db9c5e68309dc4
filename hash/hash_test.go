package hash_test

import (
	"math"
	"testing"

	"kibitzer/hash"
)

// P9.1

// known are numbers of parts that were reckoned elsewhere.
var known = []struct {
	sort, n int
	want    uint64
}{
	{0, 0, 0xE220A8397B1DCDAF},
	{0, 1, 0x910A2DEC89025CC1},
	{0, -1, 0xE4D971771B652C20},
	{0, 1234567, 6457827717110365317},
	{0, 4096, 0xD73A9A3D941E7EC7},
	{1, 0, 0xD73A9A3D941E7EC7},
	{1, 72, 0x125AD5DD9F145112},
	{8, 0, 0xBAEFE5AD32669E7C},
	{8, 8, 0x278BB3BE3135E997},
	{-1, 0, 0x33D37BEB08265D0D},
	{0, math.MaxInt64, 0x2A67D7552E039EA7},
	{0, math.MinInt64, 0x481EC0A212A9F3DB},
	{math.MaxInt64, math.MaxInt64, 0xE86E6D70A0BEF8AD},
	{math.MinInt64, math.MinInt64, 0x481EC0A212A9F3DB},
	{math.MaxInt64, math.MinInt64, 0xE0AFF94C6087C600},
	{math.MinInt64, math.MaxInt64, 0x2A67D7552E039EA7},
}

func TestKnownParts(t *testing.T) {
	for _, c := range known {
		check(t, hash.Part(c.sort, c.n), c.want, "Part", c.sort, c.n)
		check(t, plainPart(c.sort, c.n), c.want, "the plain Part", c.sort, c.n)
	}
}

// ends are numbers around each power of two, of both signs, and at both ends of the integers.
func ends() []int {
	l := []int{math.MinInt, math.MinInt + 1, math.MaxInt - 1, math.MaxInt}
	for by := range 63 {
		for _, n := range []int{1<<by - 1, 1 << by, 1<<by + 1} {
			l = append(l, n, -n)
		}
	}
	return l
}

func TestPartsOfAnyNumbers(t *testing.T) {
	for _, sort := range ends() {
		for _, n := range ends() {
			check(t, hash.Part(sort, n), plainPart(sort, n), "Part", sort, n)
		}
	}
	d := dice(91)
	for range 20000 {
		sort, n := int(d.next()), int(d.next())
		check(t, hash.Part(sort, n), plainPart(sort, n), "Part", sort, n)
	}
}

func TestPartsOfSmallNumbers(t *testing.T) {
	for sort := -2; sort <= 10; sort++ {
		for n := -70; n <= 4200; n++ {
			check(t, hash.Part(sort, n), plainPart(sort, n), "Part", sort, n)
		}
	}
}

// P9.2

func TestPiece(t *testing.T) {
	isMan := map[int]bool{}
	for _, man := range men {
		isMan[int(man)] = true
	}
	for piece := range 256 {
		for s := range 64 {
			want := uint64(0)
			if isMan[piece] {
				want = plainPart(1, 64*piece+s)
			}
			check(t, hash.Piece(uint8(piece), s), want, "Piece", piece, s)
		}
		for _, s := range outside {
			check(t, hash.Piece(uint8(piece), s), 0, "Piece", piece, s)
		}
	}
}

func TestTurn(t *testing.T) {
	for color := range 256 {
		want := uint64(0)
		if color == 1 {
			want = plainPart(2, 0)
		}
		check(t, hash.Turn(uint8(color)), want, "Turn", color)
	}
}

func TestPassing(t *testing.T) {
	for s := range 64 {
		check(t, hash.Passing(s), plainPart(3, s), "Passing", s)
	}
	for _, s := range outside {
		check(t, hash.Passing(s), 0, "Passing", s)
	}
}

func TestRook(t *testing.T) {
	for color := range 256 {
		for side := -3; side <= 3; side++ {
			for file := -3; file <= 10; file++ {
				want := uint64(0)
				if color < 2 && (side == 0 || side == 1) && file >= 0 && file < 8 {
					want = plainPart(4, 16*(2*color+side)+file)
				}
				check(t, hash.Rook(uint8(color), side, file), want, "Rook", color, side, file)
			}
		}
	}
	for _, n := range outside {
		for color := range 2 {
			check(t, hash.Rook(uint8(color), n, 3), 0, "Rook", color, n, 3)
			check(t, hash.Rook(uint8(color), 1, n), 0, "Rook", color, 1, n)
			check(t, hash.Rook(uint8(color), n, n), 0, "Rook", color, n, n)
		}
	}
}

func TestPocket(t *testing.T) {
	for color := range 2 {
		for kind := range 256 {
			for n := range 256 {
				want := uint64(0)
				if kind >= 1 && kind <= 5 && n > 0 {
					want = plainPart(5, 256*(6*color+kind)+n)
				}
				check(t, hash.Pocket(uint8(color), uint8(kind), uint8(n)), want, "Pocket", color, kind, n)
			}
		}
	}
	for color := 2; color < 256; color++ {
		for kind := range 256 {
			check(t, hash.Pocket(uint8(color), uint8(kind), 1), 0, "Pocket", color, kind, 1)
			check(t, hash.Pocket(uint8(color), uint8(kind), 255), 0, "Pocket", color, kind, 255)
		}
	}
}

func TestChecks(t *testing.T) {
	for color := range 256 {
		for n := range 256 {
			want := uint64(0)
			if color < 2 && n > 0 {
				want = plainPart(6, 256*color+n)
			}
			check(t, hash.Checks(uint8(color), uint8(n)), want, "Checks", color, n)
		}
	}
}

func TestPromoted(t *testing.T) {
	check(t, hash.Promoted(0), 0, "Promoted")
	for s := range 64 {
		check(t, hash.Promoted(1<<s), plainPart(7, s), "Promoted", s)
		for other := range s {
			check(t, hash.Promoted(1<<s|1<<other), plainPart(7, s)^plainPart(7, other), "Promoted", s, other)
		}
	}
	d := dice(97)
	for _, b := range []uint64{math.MaxUint64, 0xFF, 0xFF << 56, d.next(), d.next() & d.next(), d.next() | d.next()} {
		want := uint64(0)
		for s := range 64 {
			if b>>s&1 == 1 {
				want ^= plainPart(7, s)
			}
		}
		check(t, hash.Promoted(b), want, "Promoted", int(b))
	}
}
