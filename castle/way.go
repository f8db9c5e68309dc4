package castle

import (
	"iter"

	"kibitzer/api"
	"kibitzer/attack"
	"kibitzer/bits"
	"kibitzer/board"
	"kibitzer/rays"
)

// nothing is the number of a square on which no piece stands.
const nothing uint8 = 0

// mayGo: whether nothing stands in the way of the castling's king and rook, and nothing attacks the king on its way.
func mayGo(p api.Position, m api.Move) bool {
	from, rookFrom := int(m.From), int(m.To)
	to, rookTo, _ := Goals(p, m)
	// Neither of the two stands in the other one's way, nor shields it: they are asked for as if they were gone.
	bare := board.Put(board.Put(p, from, nothing), rookFrom, nothing)
	return isFree(bare, from, to) && isFree(bare, rookFrom, rookTo) && isSafe(bare, from, to)
}

// isFree: whether nothing stands from the one square to the other one.
func isFree(p api.Position, from, to int) bool {
	for s := range span(from, to) {
		if board.At(p, s) != nothing {
			return false
		}
	}
	return true
}

// isSafe: whether no square from the one to the other one counts as attacked.
func isSafe(p api.Position, from, to int) bool {
	for s := range span(from, to) {
		if attack.On(p, s, other(p.Turn)) && !isSheltered(p, s) {
			return false
		}
	}
	return true
}

// span goes through the squares of a home from the one to the other one, both ends counted, whichever of them is the less.
func span(from, to int) iter.Seq[int] {
	return func(yield func(int) bool) {
		for s := min(from, to); s <= max(from, to); s++ {
			if !yield(s) {
				return
			}
		}
	}
}

// isSheltered: whether nobody of Atomic would take on the square: the other color's king beside it would blow up, too.
func isSheltered(p api.Position, s int) bool {
	return p.Variant == api.Atomic && rays.King(s)&board.Of(p, other(p.Turn), api.King) != 0
}

// isRook: whether a rook of who is to move stands on the square.
func isRook(p api.Position, s int) bool {
	return bits.Has(board.Of(p, p.Turn, api.Rook), s)
}

func other(color uint8) uint8 { return api.Black - color }
