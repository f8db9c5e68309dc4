package hash_test

import (
	"math"
	"math/big"
	"testing"

	"kibitzer/api"
)

// men are the numbers of all pieces there are.
var men = []uint8{1, 2, 3, 4, 5, 6, 9, 10, 11, 12, 13, 14}

// outside are numbers that are no squares, no sides, no files: just outside, congruent to one that is, and as far out as an int goes.
var outside = []int{-1, -2, -7, -8, -63, -64, -65, 64, 65, 72, 127, 128, 192, 255, 256, 260, 4096, 1 << 31, 1 << 32, 1<<32 + 5, -1 << 32, math.MinInt, math.MinInt + 5, math.MaxInt - 1, math.MaxInt}

// word is the numbers modulo 2^64, as integers without an end are reckoned with.
var word = new(big.Int).Lsh(big.NewInt(1), 64)

// plainPart is the number of a part, reckoned without any wrap-round of machine integers.
func plainPart(sort, n int) uint64 {
	x := new(big.Int).Mul(big.NewInt(4096), big.NewInt(int64(sort)))
	x.Add(x, big.NewInt(int64(n)))
	x.Add(x, hex("9E3779B97F4A7C15")).Mod(x, word)
	x.Xor(x, shifted(x, 30)).Mul(x, hex("BF58476D1CE4E5B9")).Mod(x, word)
	x.Xor(x, shifted(x, 27)).Mul(x, hex("94D049BB133111EB")).Mod(x, word)
	return x.Xor(x, shifted(x, 31)).Uint64()
}

func hex(digits string) *big.Int {
	x, _ := new(big.Int).SetString(digits, 16)
	return x
}

func shifted(x *big.Int, by uint) *big.Int { return new(big.Int).Rsh(x, by) }

// row is one that a part has in the chapter's table: its sort and its number there.
type row struct{ sort, n int }

// rowsOf are those of all parts of a position, gone through as the table has them.
func rowsOf(p api.Position) []row {
	var l []row
	for s := range 64 {
		for _, man := range men {
			if p.Board[s] == man {
				l = append(l, row{1, 64*int(man) + s})
			}
		}
		if p.Promoted>>s&1 == 1 {
			l = append(l, row{7, s})
		}
		if int(p.Passing) == s {
			l = append(l, row{3, s})
		}
	}
	if p.Turn == 1 {
		l = append(l, row{2, 0})
	}
	for c := range 2 {
		for d := range 2 {
			for f := range 8 {
				if int(p.Rooks[c][d]) == f {
					l = append(l, row{4, 16*(2*c+d) + f})
				}
			}
		}
		for k := 1; k <= 5; k++ {
			if n := int(p.Pockets[c][k]); n > 0 {
				l = append(l, row{5, 256*(6*c+k) + n})
			}
		}
		if n := int(p.Checks[c]); n > 0 {
			l = append(l, row{6, 256*c + n})
		}
	}
	return append(l, row{8, int(p.Variant)})
}

// reckoned keeps what plainPart has told, as whole positions ask for the same rows again and again.
var reckoned = map[row]uint64{}

func plainKey(p api.Position) uint64 {
	x := uint64(0)
	for _, r := range rowsOf(p) {
		if _, ok := reckoned[r]; !ok {
			reckoned[r] = plainPart(r.sort, r.n)
		}
		x ^= reckoned[r]
	}
	return x
}

// dice tell numbers without order, the same ones in each run.
type dice uint64

func (d *dice) next() uint64 {
	*d = *d*6364136223846793005 + 1442695040888963407
	return uint64(*d ^ *d>>29)
}

func (d *dice) below(n int) int { return int((d.next() >> 33) % uint64(n)) }

func (d *dice) byte() uint8 { return uint8(d.below(256)) }

// near is a number from just below 0 to just above the end.
func (d *dice) near(end int) int8 { return int8(d.below(end+4) - 2) }

// filled is a position whose fields hold small numbers: mostly such as the table has parts of, but others, too.
func (d *dice) filled(variant uint8) api.Position {
	p := api.Position{Variant: variant, Promoted: d.next() & d.next(), Turn: uint8(d.below(3)), Passing: d.near(64), Half: d.below(200), Full: d.below(200)}
	for s := range p.Board {
		p.Board[s] = uint8(d.below(18))
	}
	for c := range 2 {
		p.Rooks[c] = [2]int8{d.near(8), d.near(8)}
		for k := range 6 {
			p.Pockets[c][k] = uint8(d.below(4))
		}
		p.Checks[c] = uint8(d.below(4))
	}
	return p
}

// wild is a position each of whose bytes is any one.
func (d *dice) wild() api.Position {
	p := api.Position{Variant: d.byte(), Promoted: d.next(), Turn: d.byte(), Passing: int8(d.byte()), Half: int(d.next()), Full: int(d.next())}
	for s := range p.Board {
		p.Board[s] = d.byte()
	}
	for c := range 2 {
		p.Rooks[c] = [2]int8{int8(d.byte()), int8(d.byte())}
		for k := range 6 {
			p.Pockets[c][k] = d.byte()
		}
		p.Checks[c] = d.byte()
	}
	return p
}

func check(t *testing.T, got, want uint64, what string, numbers ...int) {
	t.Helper()
	if got != want {
		t.Errorf("%s of %d: %x, not %x", what, numbers, got, want)
	}
}
