package valid_test

import (
	"fmt"
	"slices"
	"testing"

	"kibitzer/api"
	"kibitzer/valid"
)

// P12.1: ErrRooks

// square is that of a file on a color's home.
func square(color, file int) int { return 56*color + file }

// castling is a position in which the color's king and a rook stand on these files of its home, and the other king (none in Horde, if it is White's) far off; the right of that side names the rook.
func castling(v, turn uint8, color, side, king, rook int) api.Position {
	p := placed(v, turn, "")
	p.Board[square(color, king)] = uint8(8*color + 6)
	p.Board[square(color, rook)] = uint8(8*color + 4)
	if v != api.Horde || color == 0 {
		far := 24 + (rook+4)%8
		p.Board[far] = uint8(8*(1-color) + 6)
	}
	p.Rooks[color][side] = int8(rook)
	return p
}

// castles: whether the color may have rights in the variant.
func castles(v uint8, color int) bool {
	return v != api.Antichess && v != api.Racing && !(v == api.Horde && color == 0)
}

// homeWrong is what is wrong in Horde where White has a king.
func homeWrong(v uint8, color int) []api.Errno {
	return when(v == api.Horde && color == 0, api.ErrKings)
}

func TestFilesOfKingsAndRooks(t *testing.T) {
	for _, base := range every() {
		v, turn := base.Variant, base.Turn
		for i := range 4 {
			color, side := i/2, i%2
			for king := range 8 {
				for rook := range 8 {
					if king == rook {
						continue
					}
					p := castling(v, turn, color, side, king, rook)
					may := (rook > king) == (side == 0)
					if v != api.Chess960 {
						may = may && king == 4 && rook == 7-7*side
					}
					may = may && v != api.Antichess && v != api.Racing
					want := slices.Concat(homeWrong(v, color), when(!may, api.ErrRooks))
					check(t, fmt.Sprint("king ", king, ", rook ", rook, ", right ", i), p, want)
				}
			}
		}
	}
}

// rights is a position in which each color has both, of the variants that castle.
func rights(v, turn uint8) api.Position {
	p := quiet(v, turn)
	for color := range 2 {
		if castles(v, color) {
			p.Rooks[color] = [2]int8{7, 0}
		}
	}
	return p
}

func TestAllRights(t *testing.T) {
	for _, base := range every() {
		p := rights(base.Variant, base.Turn)
		check(t, "all rights", p, fine)
		for color := range 2 {
			if castles(p.Variant, color) {
				continue
			}
			for _, sides := range [][2]int8{{7, 0}, {7, -1}, {-1, 0}} {
				q := p
				q.Rooks[color] = sides
				check(t, "rights of who has none", q, alone(api.ErrRooks))
			}
		}
	}
}

// Each reason alone for which a right is wrong, of each color, each side.
func TestRightsThatAreWrong(t *testing.T) {
	for _, base := range every() {
		for i := range 4 {
			color, side := i/2, i%2
			if !castles(base.Variant, color) {
				continue
			}
			rook, own := square(color, 7-7*side), uint8(8*color)
			for _, n := range []uint8{0, own + 2, own + 3, own + 5, 8 - own + 2, 8 - own + 3} {
				p := rights(base.Variant, base.Turn)
				p.Board[rook] = n
				check(t, fmt.Sprint(n, " in the rook's place"), p, alone(api.ErrRooks))
				p.Rooks[color][side] = -1
				check(t, "without that right", p, fine)
			}
			p := rights(base.Variant, base.Turn)
			p.Board[rook] = 8 - own + 4
			p.Board[square(color, 5-2*side)] = own + 3
			check(t, "the other color's rook in the rook's place", p, alone(api.ErrRooks))

			// The rook a rank ahead, and on the same file of the other color's home.
			p = rights(base.Variant, base.Turn)
			p.Board[rook] = 0
			p.Board[rook+8-16*color] = own + 4
			check(t, "the rook off its home", p, alone(api.ErrRooks))
		}
	}
}

// One right is told of a file on which no rook stands, though one does elsewhere on that side.
func TestRightsOfOtherFiles(t *testing.T) {
	for _, base := range every() {
		for i := range 4 {
			color, side := i/2, i%2
			if !castles(base.Variant, color) {
				continue
			}
			for file := range 8 {
				p := rights(base.Variant, base.Turn)
				p.Rooks[color][side] = int8(file)
				check(t, fmt.Sprint("right ", i, " on the file ", file), p, when(file != 7-7*side, api.ErrRooks))
				if file == 0 || file == 4 || file == 7 {
					continue
				}
				// With a rook there, too, it is one in Chess960.
				p.Board[square(color, file)] = uint8(8*color + 4)
				may := base.Variant == api.Chess960 && (file > 4) == (side == 0)
				want := slices.Concat(when(!may, api.ErrRooks), when(!plainCheck(p), api.ErrCheck))
				check(t, fmt.Sprint("right ", i, " on the file ", file, " of a second rook"), p, want)
			}
		}
	}
}

// Kings off the squares whence they castle.
func TestRightsOfKingsElsewhere(t *testing.T) {
	for _, base := range every() {
		for color := range 2 {
			if !castles(base.Variant, color) {
				continue
			}
			for s := range 64 {
				p := rights(base.Variant, base.Turn)
				p.Board[square(color, 4)] = 0
				if p.Board[s] != 0 {
					continue
				}
				p.Board[s] = uint8(8*color + 6)
				may := s == square(color, 4) || base.Variant == api.Chess960 && s/8 == 7*color
				want := slices.Concat(when(!may, api.ErrRooks), when(!plainCheck(p), api.ErrCheck))
				check(t, fmt.Sprint("the king on ", s), p, want)
			}
		}
	}
}

// The first one of two kings counts, the one on the least square.
func TestRightsOfTwoKings(t *testing.T) {
	for _, v := range []uint8{api.Standard, api.Chess960, api.Atomic, api.KingHill} {
		p := rights(v, api.White)
		check(t, "White's second one", with(p, "Ka3"), alone(api.ErrKings))
		check(t, "White's first one", with(p, "Kb1"), slices.Concat(alone(api.ErrKings), when(v != api.Chess960, api.ErrRooks)))
		check(t, "Black's first one", with(p, "kd6"), []api.Errno{api.ErrKings, api.ErrRooks})
		check(t, "Black's second one", with(p, "kf8"), alone(api.ErrKings))
	}
}

// Without a king there is no right; in Atomic nothing else is wrong then.
func TestRightsOfNoKing(t *testing.T) {
	for _, v := range []uint8{api.Standard, api.Chess960, api.Crazyhouse, api.Atomic, api.ThreeCheck, api.KingHill} {
		kings := when(v != api.Atomic, api.ErrKings)
		check(t, "White's king gone", with(rights(v, api.White), ".e1"), slices.Concat(kings, alone(api.ErrRooks)))
		check(t, "Black's king gone", with(rights(v, api.Black), ".e8"), slices.Concat(kings, alone(api.ErrRooks)))
	}
}

// P12.2: each right, each side, by itself.
func TestMendOfEachRight(t *testing.T) {
	for _, base := range every() {
		p := rights(base.Variant, base.Turn)
		for gone := range 16 {
			q := p
			for i := range 4 {
				if gone>>i&1 == 1 {
					q.Board[square(i/2, 7-7*(i%2))] = 0
				}
			}
			want := q
			for i := range 4 {
				if gone>>i&1 == 1 {
					want.Rooks[i/2][i%2] = -1
				}
			}
			if got := valid.Mend(q); got != want {
				t.Errorf("Mend of rights %v: %v, not %v: variant %d", q.Rooks, got.Rooks, want.Rooks, q.Variant)
			}
		}
	}
}

// P12.1: ErrPassing

// sides are what is passing on White's turn, and on Black's: where, how far up the own pawns go, and the pawns' numbers.
var sides = []struct {
	rank, up    int
	own, theirs uint8
}{{5, 8, 1, 9}, {2, -8, 9, 1}}

// passed is a position in which a pawn of who is not to move has just passed the square, and a pawn on the left (-1), on the right (1) attacks it, each if the board reaches so far. Its kings are out of each pawn's reach.
func passed(v, turn uint8, s int, beside ...int) api.Position {
	side := sides[turn]
	p := placed(v, turn, "Ka8 kh1")
	if v == api.Horde {
		p = placed(v, turn, "kh1")
	}
	p.Passing = int8(s)
	p.Board[s-side.up] = side.theirs
	for _, by := range beside {
		if s%8+by >= 0 && s%8+by < 8 {
			p.Board[s-side.up+by] = side.own
		}
	}
	return p
}

// noPawns is what is wrong with each pawn where there must be none.
func noPawns(v uint8) []api.Errno { return when(v == api.Racing, api.ErrPawns) }

func TestPassing(t *testing.T) {
	for _, base := range every() {
		v, turn := base.Variant, base.Turn
		for file := range 8 {
			s := 8*sides[turn].rank + file
			check(t, "attacked by both", passed(v, turn, s, -1, 1), noPawns(v))
			check(t, "from the left", passed(v, turn, s, -1), slices.Concat(noPawns(v), when(file == 0, api.ErrPassing)))
			check(t, "from the right", passed(v, turn, s, 1), slices.Concat(noPawns(v), when(file == 7, api.ErrPassing)))
			check(t, "from nowhere", passed(v, turn, s), slices.Concat(noPawns(v), alone(api.ErrPassing)))
		}
	}
}

func TestPassingOfEachRank(t *testing.T) {
	for _, base := range every() {
		v, turn := base.Variant, base.Turn
		for s := range 64 {
			if pawns := s - sides[turn].up; pawns < 8 || pawns > 55 {
				continue
			}
			p := passed(v, turn, s, -1, 1)
			right := s/8 == sides[turn].rank
			check(t, fmt.Sprint("passing ", s), p, slices.Concat(noPawns(v), when(!right, api.ErrPassing)))
			if right {
				p.Turn = 1 - turn
				check(t, "on the other one's turn", p, slices.Concat(noPawns(v), alone(api.ErrPassing)))
			}
		}
		for _, s := range []int{0, 3, 7, 56, 60, 63} {
			p := quiet(v, turn)
			p.Passing = int8(s)
			check(t, fmt.Sprint("passing ", s), p, alone(api.ErrPassing))
		}
	}
}

// All on which something stands alone: the square, the one behind it, and what is ahead of it.
func TestPassingInTheWay(t *testing.T) {
	for _, base := range every() {
		v, turn := base.Variant, base.Turn
		if v == api.Racing {
			continue
		}
		side := sides[turn]
		for file := range 8 {
			s := 8*side.rank + file
			for _, n := range men {
				if n%8 == 6 {
					continue
				}
				what := fmt.Sprint("the piece ", n, ", passing ", s, ", ")
				p := passed(v, turn, s, -1, 1)
				p.Board[s] = n
				wrong := slices.Concat(alone(api.ErrPassing), when(!plainCheck(p), api.ErrCheck))
				check(t, what+"there", p, wrong)
				p = passed(v, turn, s, -1, 1)
				p.Board[s+side.up] = n
				wrong = slices.Concat(alone(api.ErrPassing), when(!plainCheck(p), api.ErrCheck))
				check(t, what+"behind", p, wrong)
				p = passed(v, turn, s, -1, 1)
				p.Board[s-side.up] = n
				wrong = slices.Concat(when(n != side.theirs, api.ErrPassing), when(!plainCheck(p), api.ErrCheck))
				check(t, what+"ahead", p, wrong)
			}
			p := passed(v, turn, s, -1, 1)
			p.Board[s-side.up] = 0
			check(t, "nothing ahead", p, alone(api.ErrPassing))
		}
	}
}

// Other pieces than pawns of who is to move attack the square, or pawns stand beside it that don't.
func TestPassingUnattacked(t *testing.T) {
	for _, base := range every() {
		v, turn := base.Variant, base.Turn
		if v == api.Racing {
			continue
		}
		side := sides[turn]
		for file := range 8 {
			s := 8*side.rank + file
			for _, n := range men {
				if n%8 == 6 {
					continue
				}
				for _, away := range []int{-1, 1} {
					if file+away < 0 || file+away > 7 {
						continue
					}
					for _, ranks := range []int{-2, -1, 0, 1} {
						p := passed(v, turn, s)
						p.Board[s+ranks*side.up+away] = n
						may := n == side.own && ranks == -1
						want := slices.Concat(when(!may, api.ErrPassing), when(!plainCheck(p), api.ErrCheck))
						check(t, fmt.Sprint("the piece ", n, " beside ", s), p, want)
					}
				}
			}
		}
		// A knight, a rook, a queen that attack it from afar.
		s := 8*side.rank + 3
		for _, n := range []uint8{2, 4, 5} {
			p := passed(v, turn, s)
			p.Board[s+2-side.up] = side.own - 1 + n
			p.Board[s+3] = side.own - 1 + n
			check(t, "attacked from afar", p, alone(api.ErrPassing))
		}
	}
}

// No pawn attacks round the edge of the board.
func TestPassingRoundTheEdge(t *testing.T) {
	for v := range api.Variants {
		if v == api.Racing {
			continue
		}
		for turn, side := range sides {
			for _, s := range []int{8 * side.rank, 8*side.rank + 7} {
				for rank := 1; rank < 7; rank++ {
					p := passed(v, uint8(turn), s)
					p.Board[8*rank+7-s%8] = side.own
					check(t, "a pawn at the other edge", p, alone(api.ErrPassing))
				}
			}
		}
	}
}

// P12.2: the passing square alone.
func TestMendOfPassing(t *testing.T) {
	for _, base := range every() {
		for s := range 64 {
			p := rights(base.Variant, base.Turn)
			want := p
			p.Passing = int8(s)
			if got := valid.Mend(p); got != want {
				t.Errorf("Mend of passing %d: %+v, not %+v", s, got, want)
			}
		}
		if base.Variant != api.Racing {
			p := passed(base.Variant, base.Turn, 8*sides[base.Turn].rank+3, 1)
			if got := valid.Mend(p); got != p {
				t.Errorf("Mend of a passing square that may be: %+v, not %+v", got, p)
			}
		}
	}
}
