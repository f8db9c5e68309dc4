package valid

import (
	"kibitzer/api"
	"kibitzer/attack"
	"kibitzer/board"
	"kibitzer/pieces"
	"kibitzer/rules"
)

// right is the side towards the h file.
const right = 0

// Where king and rooks castle from, but in Chess960: the king's file, and of each side the rook's.
const usualKing = 4

var usualRooks = [2]int{7, 0}

// The ranks over which pawns pass: Black's on White's turn, White's on Black's.
const (
	passedByBlack = 5
	passedByWhite = 2
)

func (p position) rooks() api.Errno {
	for color := api.White; color <= api.Black; color++ {
		for side := range p.Rooks[color] {
			if !p.rookMayBe(color, side) {
				return api.ErrRooks
			}
		}
	}
	return api.OK
}

// rookMayBe: whether the color has no right to that side, or one that it may have.
func (p position) rookMayBe(color uint8, side int) bool {
	rook := int(p.Rooks[color][side])
	if rook == none {
		return true
	}
	home := firstOfHome(color)
	king := board.Find(p.Position, color, api.King) - home
	switch {
	case !rules.Castles(p.Variant), king < 0, king >= files:
		return false
	case p.Board[home+rook] != pieces.Make(color, api.Rook), (rook > king) != (side == right):
		return false
	}
	return p.Variant == api.Chess960 || king == usualKing && rook == usualRooks[side]
}

// firstOfHome is the least square of the color's home.
func firstOfHome(color uint8) int {
	if color == api.White {
		return 0
	}
	return api.Squares - files
}

func (p position) passing() api.Errno { return unless(p.passingMayBe(), api.ErrPassing) }

// passingMayBe: whether nothing is passing, or a square over which a pawn may just have gone, so that it may be taken there.
func (p position) passingMayBe() bool {
	passed := int(p.Passing)
	if passed == none {
		return true
	}
	// The pawn came down on White's turn, up on Black's.
	rank, ahead := passedByBlack, -files
	if p.Turn == api.Black {
		rank, ahead = passedByWhite, files
	}
	return passed/files == rank &&
		p.Board[passed] == nothing && p.Board[passed-ahead] == nothing &&
		p.Board[passed+ahead] == pieces.Make(other(p.Turn), api.Pawn) &&
		attack.By(p.Position, passed, p.Turn)&board.Of(p.Position, p.Turn, api.Pawn) != 0
}
