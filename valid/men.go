package valid

import (
	"kibitzer/api"
	"kibitzer/attack"
	"kibitzer/board"
	"kibitzer/pieces"
	"kibitzer/rules"
)

// The ranks on which no pawn begins, and none stays.
const (
	lowest  = 0
	highest = 7
)

func (p position) kings() api.Errno {
	return unless(p.kingsMayBe(api.White) && p.kingsMayBe(api.Black), api.ErrKings)
}

// kingsMayBe: whether the color has as many kings as it may have.
func (p position) kingsMayBe(color uint8) bool {
	n := p.kingsOf(color)
	switch {
	case p.Variant == api.Antichess:
		return true
	case p.Variant == api.Horde && color == api.White:
		return n == 0
	case p.Variant == api.Atomic && color == p.Turn:
		// Its king may have been blown up.
		return n <= 1
	}
	return n == 1
}

func (p position) kingsOf(color uint8) int { return board.Count(p.Position, color, api.King) }

func (p position) pawns() api.Errno {
	for s, piece := range p.Board {
		if pieces.Kind(piece) == api.Pawn && !p.pawnMayBe(pieces.Color(piece), s/files) {
			return api.ErrPawns
		}
	}
	return api.OK
}

// pawnMayBe: whether a pawn of the color may stand on the rank.
func (p position) pawnMayBe(color uint8, rank int) bool {
	switch rank {
	case lowest:
		return p.Variant == api.Horde && color == api.White
	case highest:
		return false
	}
	return rules.Pawns(p.Variant)
}

func (p position) pockets() api.Errno { return unless(p.pocketsMayBe(), api.ErrPockets) }

func (p position) pocketsMayBe() bool {
	if !rules.Pockets(p.Variant) {
		return p.Pockets == [2][6]uint8{} && p.Promoted == 0
	}
	return p.Pockets[api.White][noKind] == 0 && p.Pockets[api.Black][noKind] == 0 &&
		p.men() <= api.MaxMen && p.promotedMayBe()
}

// men is how many there are on the board and in both pockets.
func (p position) men() int {
	n := 0
	for color, pocket := range p.Pockets {
		n += board.Count(p.Position, uint8(color), everyKind)
		for _, held := range pocket {
			n += int(held)
		}
	}
	return n
}

// promotedMayBe: whether only such as a pawn becomes are marked.
func (p position) promotedMayBe() bool {
	for s, piece := range p.Board {
		kind := pieces.Kind(piece)
		if p.Promoted>>s&1 == 1 && (kind < api.Knight || kind > api.Queen) {
			return false
		}
	}
	return true
}

func (p position) check() api.Errno {
	return unless(!p.inCheck(other(p.Turn)) && !(p.Variant == api.Racing && p.inCheck(p.Turn)), api.ErrCheck)
}

// inCheck: whether the color's king is in a check that counts; in Atomic none does, once the other king has been blown up.
func (p position) inCheck(color uint8) bool {
	if p.Variant == api.Atomic && p.kingsOf(p.Turn) == 0 {
		return false
	}
	return attack.Check(p.Position, color)
}
