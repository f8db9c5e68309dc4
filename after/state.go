package after

import (
	"kibitzer/api"
	"kibitzer/attack"
	"kibitzer/board"
	"kibitzer/pieces"
)

// files is how many squares a rank has: so far apart are two squares of a file that are neighbours.
const files = 8

// stride is how far apart two squares are from one of which a pawn goes to the other one over a third.
const stride = 2 * files

// mostChecks is how many a color has given at most.
const mostChecks = 3

// rights takes away those to castle that are lost.
func (c *change) rights() {
	if pieces.Kind(c.moved) == api.King {
		c.Rooks[c.Turn] = [...]int8{none, none}
	}
	for color := range api.Black + 1 {
		for side, file := range c.Rooks[color] {
			if !c.keepsRight(color, int(file)) {
				c.Rooks[color][side] = none
			}
		}
	}
}

// keepsRight: whether the color's right to castle with the rook of that file is still one. A square from which a piece went is empty; one on which something was taken need not be, but the rook there is another one.
func (c *change) keepsRight(color uint8, file int) bool {
	if file < 0 || file >= files {
		return false
	}
	rook := home(color) + file
	return rook != c.takenFrom && c.kingIsHome(color) && board.At(c.Position, rook) == pieces.Make(color, api.Rook)
}

func (c *change) kingIsHome(color uint8) bool {
	king := board.Find(c.Position, color, api.King)
	return king >= home(color) && king < home(color)+files
}

// pass tells the square over which a pawn has gone, if it may be taken there.
func (c *change) pass() {
	c.Passing = none
	between := (c.from() + c.to()) / 2
	if c.strode() && attack.By(c.Position, between, other(c.Turn))&board.Of(c.Position, other(c.Turn), api.Pawn) != 0 {
		c.Passing = int8(between)
	}
}

// strode: whether a pawn went two squares from the rank ahead of its home.
func (c *change) strode() bool {
	far := c.to() - c.from()
	return pieces.Kind(c.moved) == api.Pawn && c.from()/files == aheadOfHome(c.Turn) && (far == stride || far == -stride)
}

func (c *change) clocks() {
	c.Half = oneMore(c.Half)
	if pieces.Kind(c.moved) == api.Pawn || c.takes() {
		c.Half = 0
	}
	if c.Turn == api.Black {
		c.Full = oneMore(c.Full)
	}
}

// turn gives the other color its turn, and counts a check that it is in.
func (c *change) turn() {
	mover := c.Turn
	c.Turn = other(mover)
	if c.Variant == api.ThreeCheck && attack.Check(c.Position, c.Turn) {
		c.Checks[mover] = min(c.Checks[mover], mostChecks-1) + 1
	}
}

// oneMore is the clock's next number.
func oneMore(clock int) int {
	if clock >= api.MaxClock {
		return clock
	}
	return clock + 1
}

// home is the least square of the color's home.
func home(color uint8) int {
	if color == api.White {
		return 0
	}
	return api.Squares - files
}

// aheadOfHome is the rank that lies ahead of the color's home.
func aheadOfHome(color uint8) int {
	if color == api.White {
		return 1
	}
	return 6
}
