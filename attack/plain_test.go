package attack_test

import (
	"math"
	"strings"
	"testing"

	"kibitzer/api"
	"kibitzer/rules"
)

// men are the numbers of all pieces there are.
var men = []uint8{1, 2, 3, 4, 5, 6, 9, 10, 11, 12, 13, 14}

// strangers are numbers above 0 that are no pieces: between and beside those of pieces, and such as have a piece's number in their lower bits.
var strangers = []uint8{7, 8, 15, 16, 17, 22, 24, 30, 64, 65, 127, 128, 129, 133, 137, 142, 249, 254, 255}

// noSquares are numbers that are no squares: just outside, congruent to a square, and as far out as an int goes.
var noSquares = []int{-1, -2, -7, -8, -9, -28, -36, -63, -64, -65, 64, 65, 71, 72, 92, 100, 127, 128, 255, 256, 284, 1 << 31, 1 << 32, 1<<32 + 28, -1 << 32, math.MinInt, math.MinInt + 28, math.MaxInt - 1, math.MaxInt}

// noColors are numbers that are no colors.
var noColors = []uint8{2, 3, 7, 8, 9, 127, 128, 129, 254, 255}

// dice tell numbers without order, the same ones in each run.
type dice uint64

func (d *dice) next() uint64 {
	*d = *d*6364136223846793005 + 1442695040888963407
	return uint64(*d ^ *d>>29)
}

func (d *dice) below(n int) int { return int((d.next() >> 33) % uint64(n)) }

func (d *dice) oneOf(list []uint8) uint8 { return list[d.below(len(list))] }

// filled is a position of which about so many of sixteen squares have pieces, and one of sixteen a number that is no piece's.
func (d *dice) filled(thick int) api.Position {
	p := api.Position{Variant: uint8(d.below(10)), Turn: uint8(d.below(2)), Passing: -1}
	for s := range p.Board {
		switch by := d.below(16); {
		case by < thick:
			p.Board[s] = d.oneOf(men)
		case by == 15:
			p.Board[s] = d.oneOf(strangers)
		}
	}
	return p
}

// mixed are positions from nearly empty ones to nearly full ones, and the variants' first ones.
func mixed() []api.Position {
	var l []api.Position
	for v := range api.Variants {
		p, _ := rules.Start(v)
		l = append(l, p)
	}
	d := dice(8)
	for i := range 120 {
		l = append(l, d.filled(1+i%15))
	}
	return l
}

// at is the square of a text that is one's.
func at(text string) int { return int(text[0]-'a') + 8*int(text[1]-'1') }

// set is that of the squares whose texts it is told.
func set(texts string) uint64 {
	b := uint64(0)
	for _, text := range strings.Fields(texts) {
		b |= 1 << at(text)
	}
	return b
}

// told is a set as texts of squares, rising.
func told(b uint64) string {
	var l []string
	for s := range 64 {
		if b>>s&1 == 1 {
			l = append(l, string([]byte{'a' + byte(s%8), '1' + byte(s/8)}))
		}
	}
	return strings.Join(l, " ")
}

// placed is a position with the pieces that it is told: a letter and a square each.
func placed(texts string) api.Position {
	p := api.Position{Passing: -1, Full: 1}
	for _, text := range strings.Fields(texts) {
		p.Board[at(text[1:])] = piece(text[0])
	}
	return p
}

// piece is that of a letter.
func piece(letter byte) uint8 {
	if i := strings.IndexByte("PNBRQK", letter); i >= 0 {
		return uint8(i + 1)
	}
	return uint8(strings.IndexByte("pnbrqk", letter) + 9)
}

// colorAndKind are a piece's, told apart from how the layers reckon them; false of a number that is none's.
func colorAndKind(number uint8) (color, kind uint8, ok bool) {
	for i, man := range men {
		if man == number {
			return uint8(i / 6), uint8(i%6 + 1), true
		}
	}
	return 0, 0, false
}

func abs(n int) int { return max(n, -n) }

func sign(n int) int { return min(max(n, -1), 1) }

// open: whether nothing stands on the squares between two that share a rank, a file or a slant.
func open(p api.Position, from, to int) bool {
	by := 8*sign(to/8-from/8) + sign(to%8-from%8)
	for s := from + by; s != to; s += by {
		if _, _, ok := colorAndKind(p.Board[s]); ok {
			return false
		}
	}
	return true
}

// attacks: whether what stands on the one square attacks the other one, told by their files and ranks.
func attacks(p api.Position, from, to int) bool {
	color, kind, ok := colorAndKind(p.Board[from])
	if !ok || from == to {
		return false
	}
	file, rank := to%8-from%8, to/8-from/8
	straight, slanting := file == 0 || rank == 0, abs(file) == abs(rank)
	switch kind {
	case 1:
		return abs(file) == 1 && rank == 1-2*int(color)
	case 2:
		return abs(file*rank) == 2
	case 3:
		return slanting && open(p, from, to)
	case 4:
		return straight && open(p, from, to)
	case 5:
		return (straight || slanting) && open(p, from, to)
	}
	return abs(file) <= 1 && abs(rank) <= 1
}

// plainFrom and plainBy go through all squares.
func plainFrom(p api.Position, from int) uint64 {
	b := uint64(0)
	for to := range 64 {
		if attacks(p, from, to) {
			b |= 1 << to
		}
	}
	return b
}

func plainBy(p api.Position, to int, color uint8) uint64 {
	b := uint64(0)
	for from := range 64 {
		if c, _, _ := colorAndKind(p.Board[from]); c == color && attacks(p, from, to) {
			b |= 1 << from
		}
	}
	return b
}

func check(t *testing.T, what string, p api.Position, got, want uint64) {
	t.Helper()
	if got != want {
		t.Errorf("%s: %q, not %q: variant %d, turn %d, %v", what, told(got), told(want), p.Variant, p.Turn, p.Board)
	}
}

func checkBool(t *testing.T, what string, p api.Position, got, want bool) {
	t.Helper()
	if got != want {
		t.Errorf("%s: %v, not %v: variant %d, turn %d, %v", what, got, want, p.Variant, p.Turn, p.Board)
	}
}
