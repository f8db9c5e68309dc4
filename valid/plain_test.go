package valid_test

import (
	"math/bits"
	"slices"
	"strings"
	"testing"

	"kibitzer/api"
	"kibitzer/valid"
)

// men are the numbers of all pieces there are.
var men = []uint8{1, 2, 3, 4, 5, 6, 9, 10, 11, 12, 13, 14}

// every is a quiet position of each variant, with each color to move.
func every() []api.Position {
	var l []api.Position
	for v := range api.Variants {
		l = append(l, quiet(v, api.White), quiet(v, api.Black))
	}
	return l
}

// at is the square of a text that is one's.
func at(text string) int { return int(text[0]-'a') + 8*int(text[1]-'1') }

// piece is that of a letter.
func piece(letter byte) uint8 {
	if i := strings.IndexByte("PNBRQK", letter); i >= 0 {
		return uint8(i + 1)
	}
	return uint8(strings.IndexByte("pnbrqk", letter) + 9)
}

// placed is a position with the pieces that it is told: a letter and a square each.
func placed(v, turn uint8, texts string) api.Position {
	return with(api.Position{Variant: v, Turn: turn, Passing: -1, Rooks: [2][2]int8{{-1, -1}, {-1, -1}}, Full: 1}, texts)
}

// with is the position with these pieces, too; a point instead of a letter takes off what stands there.
func with(p api.Position, texts string) api.Position {
	for _, text := range strings.Fields(texts) {
		p.Board[at(text[1:])] = 0
		if text[0] != '.' {
			p.Board[at(text[1:])] = piece(text[0])
		}
	}
	return p
}

// quiet is a position of the variant that may be, in which nobody has a right, nothing is passing, and nobody is in check, whoever is to move.
func quiet(v, turn uint8) api.Position {
	switch v {
	case api.Horde:
		return placed(v, turn, "Pb1 Pb2 Pg4 ke8 ra8 rh8 pb7 pg5")
	case api.Racing:
		return placed(v, turn, "Ke1 Ra1 Rh1 ke8 ra8 rh8")
	}
	return placed(v, turn, "Ke1 Ra1 Rh1 Pb2 Pg4 ke8 ra8 rh8 pb7 pg5")
}

// fine is what is wanted where nothing is wrong.
var fine []api.Errno

// alone is what is wanted where just that is wrong.
func alone(e api.Errno) []api.Errno { return []api.Errno{e} }

// when is what is wanted where that is wrong, if anything is.
func when(wrong bool, e api.Errno) []api.Errno {
	if wrong {
		return alone(e)
	}
	return fine
}

// check holds what is told of the position against the errors that it has, told by the test and reckoned plainly.
func check(t *testing.T, what string, p api.Position, want []api.Errno) {
	t.Helper()
	if plain := plainAll(p); !slices.Equal(plain, want) {
		t.Fatalf("%s: the test wants %v, plainly it is %v: %+v", what, want, plain, p)
	}
	checkPlainly(t, what, p)
}

// checkPlainly holds All, Check and Mend against what is reckoned plainly.
func checkPlainly(t *testing.T, what string, p api.Position) {
	t.Helper()
	want := plainAll(p)
	if got := valid.All(p); !slices.Equal(got, want) {
		t.Errorf("%s: All %v, not %v: %+v", what, got, want, p)
	}
	first := api.OK
	if len(want) > 0 {
		first = want[0]
	}
	if got := valid.Check(p); got != first {
		t.Errorf("%s: Check %v, not %v: %+v", what, got, first, p)
	}
	checkMended(t, what, p, want)
}

// checkMended holds Mend against what is reckoned plainly, and against what follows of it.
func checkMended(t *testing.T, what string, p api.Position, wrong []api.Errno) {
	t.Helper()
	mended := valid.Mend(p)
	if want := plainMend(p); mended != want {
		t.Errorf("%s: Mend %+v, not %+v: %+v", what, mended, want, p)
	}
	if again := valid.Mend(mended); again != mended {
		t.Errorf("%s: Mend of Mend %+v, not %+v", what, again, mended)
	}
	if len(wrong) == 0 && mended != p {
		t.Errorf("%s: Mend %+v of what may be: %+v", what, mended, p)
	}
	rest := slices.DeleteFunc(slices.Clone(wrong), func(e api.Errno) bool {
		return e == api.ErrRooks || e == api.ErrPassing || e == api.ErrClocks
	})
	if got := valid.All(mended); !slices.Equal(got, rest) {
		t.Errorf("%s: All behind Mend %v, not %v: %+v", what, got, rest, p)
	}
}

// plainAll are the errors of a position, reckoned point by point of the chapter's list.
func plainAll(p api.Position) []api.Errno {
	if !plainArgs(p) {
		return alone(api.ErrArg)
	}
	var l []api.Errno
	for _, x := range []struct {
		mayBe bool
		e     api.Errno
	}{
		{p.Half >= 0 && p.Half <= 10000 && p.Full >= 1 && p.Full <= 10000, api.ErrClocks},
		{plainKings(p), api.ErrKings},
		{plainPawns(p), api.ErrPawns},
		{plainPockets(p), api.ErrPockets},
		{plainRight(p, 0, 0) && plainRight(p, 0, 1) && plainRight(p, 1, 0) && plainRight(p, 1, 1), api.ErrRooks},
		{plainPassing(p), api.ErrPassing},
		{plainCheck(p), api.ErrCheck},
	} {
		if !x.mayBe {
			l = append(l, x.e)
		}
	}
	return l
}

func plainArgs(p api.Position) bool {
	may := p.Variant <= 8 && p.Turn <= 1 && p.Passing >= -1 && p.Passing <= 63
	for _, n := range p.Board {
		may = may && (n == 0 || slices.Contains(men, n))
	}
	for c := range 2 {
		for _, f := range p.Rooks[c] {
			may = may && f >= -1 && f <= 7
		}
		may = may && (p.Checks[c] == 0 || p.Variant == api.ThreeCheck && p.Checks[c] <= 3)
	}
	return may
}

// plainCount is how often the number stands on the board.
func plainCount(p api.Position, number uint8) int {
	n := 0
	for _, there := range p.Board {
		if there == number {
			n++
		}
	}
	return n
}

func plainKings(p api.Position) bool {
	kings := [2]int{plainCount(p, 6), plainCount(p, 14)}
	switch p.Variant {
	case api.Antichess:
		return true
	case api.Horde:
		return kings == [2]int{0, 1}
	case api.Atomic:
		return kings[1-p.Turn] == 1 && kings[p.Turn] <= 1
	}
	return kings == [2]int{1, 1}
}

func plainPawns(p api.Position) bool {
	for s, n := range p.Board {
		if n != 1 && n != 9 {
			continue
		}
		if p.Variant == api.Racing || s >= 56 || s <= 7 && (p.Variant != api.Horde || n == 9) {
			return false
		}
	}
	return true
}

func plainPockets(p api.Position) bool {
	if p.Variant != api.Crazyhouse {
		return p.Pockets == [2][6]uint8{} && p.Promoted == 0
	}
	all := 64 - plainCount(p, 0)
	for _, pocket := range p.Pockets {
		for _, n := range pocket {
			all += int(n)
		}
	}
	for s := range 64 {
		n := p.Board[s] & 7
		if p.Promoted&(1<<s) != 0 && (n < 2 || n > 5) {
			return false
		}
	}
	return p.Pockets[0][0] == 0 && p.Pockets[1][0] == 0 && all <= 32
}

// plainKing is the least square on which that color's king stands, -1 if none does.
func plainKing(p api.Position, c int) int { return slices.Index(p.Board[:], uint8(8*c+6)) }

// plainRight: whether the color has no right to the side, or one that may be.
func plainRight(p api.Position, c, side int) bool {
	f := int(p.Rooks[c][side])
	if f == -1 {
		return true
	}
	king := plainKing(p, c)
	if p.Variant == api.Antichess || p.Variant == api.Racing || king < 0 || king/8 != 7*c || int(p.Board[56*c+f]) != 8*c+4 {
		return false
	}
	if side == 0 && f < king%8 || side == 1 && f > king%8 {
		return false
	}
	return p.Variant == api.Chess960 || king%8 == 4 && f == 7-7*side
}

func plainPassing(p api.Position) bool {
	if p.Passing == -1 {
		return true
	}
	s := int(p.Passing)
	up, rank, own, theirs := 8, 5, uint8(1), uint8(9)
	if p.Turn == 1 {
		up, rank, own, theirs = -8, 2, 9, 1
	}
	if s/8 != rank || p.Board[s] != 0 || p.Board[s+up] != 0 || p.Board[s-up] != theirs {
		return false
	}
	return s%8 > 0 && p.Board[s-up-1] == own || s%8 < 7 && p.Board[s-up+1] == own
}

func plainCheck(p api.Position) bool {
	switch {
	case p.Variant == api.Racing:
		return !plainChecked(p, 0) && !plainChecked(p, 1)
	case p.Variant == api.Atomic && plainCount(p, 8*p.Turn+6) == 0:
		return true
	}
	return !plainChecked(p, int(1-p.Turn))
}

// plainMend is the position without what is wrong with rights, the passing square and clocks.
func plainMend(p api.Position) api.Position {
	if !plainArgs(p) {
		return p
	}
	q := p
	for c := range 2 {
		for side := range 2 {
			if !plainRight(p, c, side) {
				q.Rooks[c][side] = -1
			}
		}
	}
	if !plainPassing(p) {
		q.Passing = -1
	}
	for _, x := range []struct {
		clock *int
		least int
	}{{&q.Half, 0}, {&q.Full, 1}} {
		if *x.clock < x.least {
			*x.clock = x.least
		}
		if *x.clock > 10000 {
			*x.clock = 10000
		}
	}
	return q
}

// plainChecked: whether the color's king is in check.
func plainChecked(p api.Position, c int) bool {
	king, theirs := plainKing(p, c), 8*(1-c)
	if p.Variant == api.Antichess || p.Variant == api.Horde && c == 0 || king < 0 {
		return false
	}
	checked := false
	for s, n := range p.Board {
		if n == 0 || int(n&8) != theirs {
			continue
		}
		if p.Variant == api.Atomic && n&7 == 6 && attacks(p, s, king) {
			return false
		}
		checked = checked || attacks(p, s, king)
	}
	return checked
}

func abs(n int) int { return max(n, -n) }

func sign(n int) int { return min(max(n, -1), 1) }

// open: whether nothing stands on the squares between two that share a rank, a file or a slant.
func open(p api.Position, from, to int) bool {
	by := 8*sign(to/8-from/8) + sign(to%8-from%8)
	for s := from + by; s != to; s += by {
		if p.Board[s] != 0 {
			return false
		}
	}
	return true
}

// attacks: whether what stands on the one square attacks the other one, told by their files and ranks.
func attacks(p api.Position, from, to int) bool {
	if from == to {
		return false
	}
	number := p.Board[from]
	file, rank := to%8-from%8, to/8-from/8
	straight, slanting := file == 0 || rank == 0, abs(file) == abs(rank)
	switch number & 7 {
	case 1:
		return abs(file) == 1 && rank == 1-2*int(number>>3)
	case 2:
		return abs(file*rank) == 2
	case 3:
		return slanting && open(p, from, to)
	case 4:
		return straight && open(p, from, to)
	case 5:
		return (straight || slanting) && open(p, from, to)
	}
	return number != 0 && abs(file) <= 1 && abs(rank) <= 1
}

// dice tell numbers without order, the same ones in each run.
type dice uint64

func (d *dice) next() uint64 {
	*d = *d*6364136223846793005 + 1442695040888963407
	return bits.RotateLeft64(uint64(*d^*d>>29), 17)
}

func (d *dice) below(n int) int { return int((d.next() >> 33) % uint64(n)) }
