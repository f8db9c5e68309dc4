package valid_test

import (
	"math"
	"slices"
	"strconv"
	"testing"

	"kibitzer/api"
	"kibitzer/valid"
)

// P12.1: ErrArg, ErrClocks

func TestQuietPositionsMayBe(t *testing.T) {
	for _, p := range every() {
		check(t, "quiet", p, fine)
	}
}

func TestVariants(t *testing.T) {
	for _, p := range every() {
		for v := int(api.Variants); v < 256; v++ {
			q := p
			q.Variant = uint8(v)
			check(t, "variant "+strconv.Itoa(v), q, alone(api.ErrArg))
		}
	}
}

func TestTurns(t *testing.T) {
	for _, p := range every() {
		for turn := 2; turn < 256; turn++ {
			q := p
			q.Turn = uint8(turn)
			check(t, "turn "+strconv.Itoa(turn), q, alone(api.ErrArg))
		}
	}
}

func TestNumbersThatAreNoPieces(t *testing.T) {
	for n := range 256 {
		if n == 0 || slices.Contains(men, uint8(n)) {
			continue
		}
		for i, p := range every() {
			// Each square, in some variant or other; and in each variant a corner, the squares of kings, of rooks, of pawns, and empty ones.
			for _, s := range []int{0, 4, 7, 9, 20, 30, 38, 49, 56, 60, 63, (n + 7*i) % 64} {
				q := p
				q.Board[s] = uint8(n)
				check(t, "the number "+strconv.Itoa(n)+" on "+strconv.Itoa(s), q, alone(api.ErrArg))
			}
		}
	}
	for s := range 64 {
		for _, n := range []uint8{7, 8, 15, 16, 22, 128, 255} {
			p := quiet(api.Standard, api.White)
			p.Board[s] = n
			check(t, "a stranger on "+strconv.Itoa(s), p, alone(api.ErrArg))
		}
	}
}

func TestNumbersThatArePieces(t *testing.T) {
	for _, p := range every() {
		for _, n := range men {
			for s := range 64 {
				q := p
				q.Board[s] = n
				checkPlainly(t, "the piece "+strconv.Itoa(int(n))+" on "+strconv.Itoa(s), q)
			}
		}
		for s := range 64 {
			q := p
			q.Board[s] = 0
			checkPlainly(t, "nothing on "+strconv.Itoa(s), q)
		}
	}
}

func TestNumbersOfPassing(t *testing.T) {
	for _, p := range every() {
		for n := math.MinInt8; n <= math.MaxInt8; n++ {
			q := p
			q.Passing = int8(n)
			want := alone(api.ErrPassing)
			switch {
			case n < -1 || n > 63:
				want = alone(api.ErrArg)
			case n == -1:
				want = fine
			}
			check(t, "passing "+strconv.Itoa(n), q, want)
		}
	}
}

func TestNumbersOfRooks(t *testing.T) {
	for _, p := range every() {
		castles := p.Variant != api.Antichess && p.Variant != api.Racing
		for i := range 4 {
			color, side := i/2, i%2
			for n := math.MinInt8; n <= math.MaxInt8; n++ {
				q := p
				q.Rooks[color][side] = int8(n)
				want := fine
				switch {
				case n < -1 || n > 7:
					want = alone(api.ErrArg)
				case n != -1:
					may := castles && n == 7-7*side && !(p.Variant == api.Horde && color == 0)
					want = when(!may, api.ErrRooks)
				}
				check(t, "rook "+strconv.Itoa(i)+" on the file "+strconv.Itoa(n), q, want)
			}
		}
	}
}

func TestNumbersOfChecks(t *testing.T) {
	for _, p := range every() {
		for n := range 256 {
			may := n == 0 || n <= 3 && p.Variant == api.ThreeCheck
			for _, given := range [][2]uint8{{uint8(n), 0}, {0, uint8(n)}, {uint8(n), uint8(n)}} {
				q := p
				q.Checks = given
				check(t, "checks", q, when(!may, api.ErrArg))
			}
		}
	}
}

func TestNumbersOfClocks(t *testing.T) {
	inside := []int{1, 2, 49, 50, 99, 100, 149, 150, 255, 256, 4096, 8191, 9998, 9999, 10000}
	outside := []int{-1, -2, -10000, math.MinInt, math.MinInt + 1, math.MinInt32, -1<<32 + 1, 10001, 10002, 1 << 16, math.MaxInt32, 1<<32 + 1, math.MaxInt - 1, math.MaxInt}
	for _, p := range every() {
		for i, n := range append(slices.Clone(inside), outside...) {
			q, r := p, p
			q.Half, r.Full = n, n
			want := when(i >= len(inside), api.ErrClocks)
			check(t, "Half", q, want)
			check(t, "Full", r, want)
			q.Full = n
			check(t, "both", q, want)
		}
		p.Full = 0
		check(t, "Full 0", p, alone(api.ErrClocks))
		p.Half = 10000
		check(t, "Full 0, Half 10000", p, alone(api.ErrClocks))
	}
}

// P12.2: where the clocks come to.
func TestMendedClocks(t *testing.T) {
	for _, x := range []struct{ half, full, nearestHalf, nearestFull int }{
		{-1, 0, 0, 1},
		{0, 1, 0, 1},
		{1, 2, 1, 2},
		{10000, 10000, 10000, 10000},
		{10001, 10001, 10000, 10000},
		{math.MinInt, math.MinInt, 0, 1},
		{math.MaxInt, math.MaxInt, 10000, 10000},
		{-5, 77, 0, 77},
		{77, -5, 77, 1},
	} {
		for _, p := range every() {
			p.Half, p.Full = x.half, x.full
			want := p
			want.Half, want.Full = x.nearestHalf, x.nearestFull
			if got := valid.Mend(p); got != want {
				t.Errorf("Mend of %d, %d: %d, %d", p.Half, p.Full, got.Half, got.Full)
			}
		}
	}
}
