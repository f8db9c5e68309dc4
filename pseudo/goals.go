package pseudo

import (
	"kibitzer/api"
	"kibitzer/bits"
	"kibitzer/board"
	"kibitzer/pieces"
	"kibitzer/rays"
	"kibitzer/slides"
)

// The directions in which pawns go, as layer 1 numbers them.
const (
	north = 0
	south = 4
)

// goals are the squares to which the piece on the square may go; none, if it isn't an own one.
func (g ground) goals(from int) uint64 {
	if !bits.Has(g.own, from) {
		return 0
	}
	return g.reached(from) &^ g.own
}

// reached are the squares to which the piece on the square may go, wherever its own color stands beyond its way.
func (g ground) reached(from int) uint64 {
	switch g.kind(from) {
	case api.Pawn:
		return g.ahead(from) | g.aside(from)
	case api.Knight:
		return rays.Knight(from)
	case api.Bishop:
		return slides.Bishop(from, g.occupied())
	case api.Rook:
		return slides.Rook(from, g.occupied())
	case api.Queen:
		return slides.Queen(from, g.occupied())
	}
	return g.kingReaches(from)
}

// kingReaches: a king of Atomic would blow up with what it takes.
func (g ground) kingReaches(from int) uint64 {
	if g.Variant == api.Atomic {
		return rays.King(from) &^ g.theirs
	}
	return rays.King(from)
}

// ahead are the squares to which a pawn goes without taking.
func (g ground) ahead(from int) uint64 {
	once := g.step(bits.Put(0, from))
	if !g.mayStride(from) {
		return once
	}
	// Where the first step leads nowhere, there is nothing for the second one to begin with.
	return once | g.step(once)
}

// step is one ahead of the set, as who is to move sees it, where nothing stands.
func (g ground) step(b uint64) uint64 {
	dir := north
	if g.Turn == api.Black {
		dir = south
	}
	return bits.Shift(b, dir) &^ g.occupied()
}

// mayStride: whether a pawn may go two squares from there.
func (g ground) mayStride(from int) bool {
	switch from / files {
	case home(g.Turn):
		return g.Variant == api.Horde && g.Turn == api.White
	case aheadOfHome(g.Turn):
		return true
	}
	return false
}

// aside are the squares on which a pawn takes.
func (g ground) aside(from int) uint64 {
	return rays.Pawn(g.Turn, from) & bits.Put(g.theirs, int(g.Passing))
}

func (g ground) occupied() uint64 { return g.own | g.theirs }

func (g ground) isPawn(s int) bool { return g.kind(s) == api.Pawn }

// kind is that of what stands on the square; of what is no piece, and of no square, none.
func (g ground) kind(s int) uint8 { return pieces.Kind(board.At(g.Position, s)) }

// aheadOfHome is the rank that lies ahead of the color's home.
func aheadOfHome(color uint8) int {
	if color == api.White {
		return 1
	}
	return 6
}
