package castle_test

import (
	"math/bits"
	"slices"
	"strings"
	"testing"

	"kibitzer/api"
	"kibitzer/castle"
)

// men are the numbers of all pieces there are.
var men = []uint8{1, 2, 3, 4, 5, 6, 9, 10, 11, 12, 13, 14}

// strangers are numbers above 0 that are no pieces: between and beside those of pieces, and such as have a piece's number in their lower bits.
var strangers = []uint8{7, 8, 15, 16, 20, 22, 28, 30, 64, 68, 127, 128, 132, 140, 142, 249, 254, 255}

// castling are the variants that castle, others those that don't.
var (
	castling = []uint8{0, 1, 2, 3, 5, 6, 7}
	others   = []uint8{4, 8}
)

// at is the square of a text that is one's.
func at(text string) int { return int(text[0]-'a') + 8*int(text[1]-'1') }

// piece is that of a letter.
func piece(letter byte) uint8 {
	if i := strings.IndexByte("PNBRQK", letter); i >= 0 {
		return uint8(i + 1)
	}
	return uint8(strings.IndexByte("pnbrqk", letter) + 9)
}

// placed is a position of White's turn with the pieces that it is told, a letter and a square each, and White's rights: the files of the sides 0 and 1, a point where there is no right.
func placed(v uint8, texts, rights string) api.Position {
	p := api.Position{Variant: v, Passing: -1, Rooks: [2][2]int8{{-1, -1}, {-1, -1}}, Full: 1}
	for _, text := range strings.Fields(texts) {
		p.Board[at(text[1:])] = piece(text[0])
	}
	for side := range 2 {
		if rights[side] != '.' {
			p.Rooks[0][side] = int8(rights[side] - 'a')
		}
	}
	return p
}

// turned is the position as the other color has it: the ranks turned about, the colors exchanged.
func turned(p api.Position) api.Position {
	q := p
	for s, number := range p.Board {
		if slices.Contains(men, number) {
			number ^= 8
		}
		q.Board[s^56] = number
	}
	q.Turn = 1 - p.Turn
	q.Rooks[0], q.Rooks[1] = p.Rooks[1], p.Rooks[0]
	return q
}

// castlings are the moves of the texts, each of the king's and the rook's square.
func castlings(texts string) []api.Move {
	var l []api.Move
	for _, text := range strings.Fields(texts) {
		l = append(l, api.Move{From: int8(at(text)), To: int8(at(text[2:])), Castle: true})
	}
	return l
}

// check holds what is told of White's position, and of the same one of Black's, against the castlings that the test wants, and plain reckoning against both.
func check(t *testing.T, what string, p api.Position, want string) {
	t.Helper()
	if plain := plainList(p); !slices.Equal(plain, castlings(want)) {
		t.Fatalf("%s: the test wants %q, plainly it is %v: %+v", what, want, plain, p)
	}
	checkPlainly(t, what, p)
}

// checkPlainly holds what is told of the position, and of the other color's same one, against what is reckoned plainly; it tells how many castlings those are.
func checkPlainly(t *testing.T, what string, p api.Position) int {
	t.Helper()
	n := 0
	for _, q := range []api.Position{p, turned(p)} {
		want := plainList(q)
		if got := castle.List(q); !slices.Equal(got, want) {
			t.Errorf("%s: List %v, not %v: %+v", what, got, want, q)
		}
		n += len(want)
	}
	return n
}

// plainList are the castlings of the position, point by point of the chapter's words.
func plainList(p api.Position) []api.Move {
	if p.Turn > 1 || !slices.Contains(castling, p.Variant) {
		return nil
	}
	var l []api.Move
	for _, side := range []int{1, 0} {
		if plainNamed(p, side) && plainGoes(p, side) {
			l = append(l, api.Move{From: int8(plainKing(p)), To: int8(plainRook(p, side)), Castle: true})
		}
	}
	return l
}

// plainKing is the least square on which a king of who is to move stands, -1 if none does.
func plainKing(p api.Position) int { return slices.Index(p.Board[:], 8*p.Turn+6) }

// plainRook is the square of the home on which the rook of the right stands, if there is such a right.
func plainRook(p api.Position, side int) int { return 56*int(p.Turn) + int(p.Rooks[p.Turn][side]) }

// plainNamed: the first of the points.
func plainNamed(p api.Position, side int) bool {
	file, king := int(p.Rooks[p.Turn][side]), plainKing(p)
	if file < 0 || file > 7 || king < 0 || king/8 != 7*int(p.Turn) || p.Board[plainRook(p, side)] != 8*p.Turn+4 {
		return false
	}
	return side == 0 && file > king%8 || side == 1 && file < king%8
}

// plainGoes: the second point, and the third.
func plainGoes(p api.Position, side int) bool {
	home, king, rook := 56*int(p.Turn), plainKing(p), plainRook(p, side)
	q := p
	q.Board[king], q.Board[rook] = 0, 0
	for s := home; s < home+8; s++ {
		kings := within(s, king, home+6-4*side)
		if (kings || within(s, rook, home+5-2*side)) && slices.Contains(men, q.Board[s]) {
			return false
		}
		if kings && plainAttacked(q, s) {
			return false
		}
	}
	return true
}

func within(s, from, to int) bool { return s >= from && s <= to || s <= from && s >= to }

// plainAttacked: whether the square counts as attacked by who is not to move.
func plainAttacked(p api.Position, s int) bool {
	attacked := false
	for from, number := range p.Board {
		if !slices.Contains(men, number) || number>>3 == p.Turn || !attacks(p, from, s) {
			continue
		}
		if p.Variant == api.Atomic && number&7 == 6 {
			return false
		}
		attacked = true
	}
	return attacked
}

func abs(n int) int { return max(n, -n) }

func sign(n int) int { return min(max(n, -1), 1) }

// open: whether nothing stands on the squares between two that share a rank, a file or a slant.
func open(p api.Position, from, to int) bool {
	by := 8*sign(to/8-from/8) + sign(to%8-from%8)
	for s := from + by; s != to; s += by {
		if slices.Contains(men, p.Board[s]) {
			return false
		}
	}
	return true
}

// attacks: whether the piece on the one square attacks the other one, told by their files and ranks.
func attacks(p api.Position, from, to int) bool {
	if from == to {
		return false
	}
	file, rank := to%8-from%8, to/8-from/8
	straight, slanting := file == 0 || rank == 0, abs(file) == abs(rank)
	switch p.Board[from] & 7 {
	case 1:
		return abs(file) == 1 && rank == 1-2*int(p.Board[from]>>3)
	case 2:
		return abs(file*rank) == 2
	case 3:
		return slanting && open(p, from, to)
	case 4:
		return straight && open(p, from, to)
	case 5:
		return (straight || slanting) && open(p, from, to)
	}
	return abs(file) <= 1 && abs(rank) <= 1
}

// dice tell numbers without order, the same ones in each run.
type dice uint64

func (d *dice) next() uint64 {
	*d = *d*6364136223846793005 + 1442695040888963407
	return bits.RotateLeft64(uint64(*d^*d>>29), 17)
}

func (d *dice) below(n int) int { return int((d.next() >> 33) % uint64(n)) }

func (d *dice) oneOf(list []uint8) uint8 { return list[d.below(len(list))] }

// home is a position of White's turn whose king and rooks mostly stand where rights name them, with about so many of sixteen other squares filled, its home less than that.
func (d *dice) home(v uint8, thick int) api.Position {
	p := placed(v, "", "..")
	for s := range p.Board {
		switch by := d.below(16); {
		case by < thick && (s > 7 || d.below(4) == 0):
			p.Board[s] = d.oneOf(men)
		case by == 15:
			p.Board[s] = d.oneOf(strangers)
		}
	}
	king := d.below(8)
	p.Board[king] = api.King
	for side := range 2 {
		rook := d.below(8)
		if rook == king || d.below(16) == 0 {
			continue
		}
		p.Board[rook], p.Rooks[0][side] = api.Rook, int8(rook)
	}
	return p
}

// mixed are positions of White's turn, from nearly empty ones to full ones, of all variants that castle.
func mixed() []api.Position {
	var l []api.Position
	d := dice(14)
	for i := range 6000 {
		l = append(l, d.home(castling[i%len(castling)], i%10))
	}
	return l
}
