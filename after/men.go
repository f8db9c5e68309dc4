package after

import (
	"kibitzer/api"
	"kibitzer/bits"
	"kibitzer/board"
	"kibitzer/castle"
	"kibitzer/drop"
	"kibitzer/pieces"
)

// men brings the pieces to where they go, and takes off what is taken.
func (c *change) men() {
	switch {
	case c.move.Castle:
		c.castle()
	case c.move.Drop != noKind:
		c.Position, _ = drop.Take(c.Position, c.Turn, c.move.Drop)
		c.put(c.to(), c.moved)
	default:
		c.put(c.takenFrom, nothing)
		c.put(c.from(), nothing)
		c.put(c.to(), c.arriving())
	}
}

// castle takes both off ahead of putting them down: each one's goal may be the other one's square.
func (c *change) castle() {
	king, rook, _ := castle.Goals(c.Position, c.move)
	c.put(c.from(), nothing)
	c.put(c.to(), nothing)
	c.put(king, c.moved)
	c.put(rook, pieces.Make(c.Turn, api.Rook))
}

// arriving is the piece as which what goes comes to its square.
func (c *change) arriving() uint8 {
	if c.move.Promote != noKind {
		return pieces.Make(c.Turn, c.move.Promote)
	}
	return c.moved
}

// pocket does what Crazyhouse does besides: what was taken is kept, and marks go with the pieces that have them.
func (c *change) pocket() {
	switch {
	case c.Variant != api.Crazyhouse, c.move.Drop != noKind:
	case c.move.Castle:
		c.carryRooksMark()
	default:
		c.Position = drop.Add(c.Position, c.Turn, c.kept())
		c.carryMark()
	}
}

// kept is the kind as which what was taken comes into the pocket, which itself refuses a king, and no kind.
func (c *change) kept() uint8 {
	if c.took != nothing && bits.Has(c.Promoted, c.takenFrom) {
		return api.Pawn
	}
	return pieces.Kind(c.took)
}

func (c *change) carryMark() {
	marked := bits.Has(c.Promoted, c.from()) || c.move.Promote != noKind
	c.unmark(c.takenFrom)
	c.unmark(c.from())
	if marked {
		c.mark(c.to())
	}
}

func (c *change) carryRooksMark() {
	if _, goal, _ := castle.Goals(c.Position, c.move); bits.Has(c.Promoted, c.to()) {
		c.unmark(c.to())
		c.mark(goal)
	}
}

// blast empties what a take of Atomic blows up.
func (c *change) blast() {
	if c.Variant != api.Atomic || !c.takes() {
		return
	}
	for _, s := range bits.List(Blown(c.Position, c.to())) {
		c.put(s, nothing)
	}
}

// takes: whether the move does by layer 13, which asks for nothing behind a passing square.
func (c *change) takes() bool { return c.takenFrom != none }

func (c *change) from() int { return int(c.move.From) }

func (c *change) to() int { return int(c.move.To) }

// put changes nothing of a square that there isn't, so what takes nothing takes nothing off.
func (c *change) put(s int, piece uint8) { c.Position = board.Put(c.Position, s, piece) }

func (c *change) mark(s int) { c.Promoted = bits.Put(c.Promoted, s) }

func (c *change) unmark(s int) { c.Promoted = bits.Clear(c.Promoted, s) }
