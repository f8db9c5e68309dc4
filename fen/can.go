package fen

import (
	"kibitzer/api"
	"kibitzer/pieces"
	"kibitzer/rules"
	"kibitzer/squares"
)

// mostChecks is how many a color has given at most.
const mostChecks = 3

// canBeWritten: whether each field of the position has a text. (How long they are together doesn't count here.)
func canBeWritten(p api.Position) bool {
	return p.Variant < api.Variants &&
		p.Turn <= api.Black &&
		isPassing(p.Passing) &&
		isClock(p.Half) && isClock(p.Full) &&
		boardCan(p) && pocketsCan(p) && checksCan(p) && rooksCan(p)
}

func isPassing(s int8) bool { return s >= none && s < api.Squares }

func isClock(n int) bool { return n >= 0 && n <= api.MaxClock }

func isFile(n int) bool { return n >= 0 && n < files }

func boardCan(p api.Position) bool {
	for s, number := range p.Board {
		empty := number == 0
		if !empty && !pieces.Is(number) {
			return false
		}
		if isPromoted(p, s) && (empty || !rules.Pockets(p.Variant)) {
			return false
		}
	}
	return true
}

func isPromoted(p api.Position, s int) bool { return p.Promoted>>s&1 == 1 }

func pocketsCan(p api.Position) bool {
	if !rules.Pockets(p.Variant) {
		return p.Pockets == [2][6]uint8{}
	}
	return p.Pockets[api.White][0] == 0 && p.Pockets[api.Black][0] == 0
}

func checksCan(p api.Position) bool {
	most := uint8(0)
	if p.Variant == api.ThreeCheck {
		most = mostChecks
	}
	return max(p.Checks[api.White], p.Checks[api.Black]) <= most
}

func rooksCan(p api.Position) bool {
	for color := api.White; color <= api.Black; color++ {
		for side, file := range p.Rooks[color] {
			if file != none && !rookCan(p, color, side, int(file)) {
				return false
			}
		}
	}
	return true
}

// rookCan: whether the color's king stands so that a rook on that file is one of that side.
func rookCan(p api.Position, color uint8, side, file int) bool {
	king := firstKing(p, color)
	if !isFile(file) || squares.Rank(king) != home(color) {
		return false
	}
	if side == right {
		return squares.File(king) < file
	}
	return squares.File(king) > file
}

// firstKing is the least square of the color's kings.
func firstKing(p api.Position, color uint8) int {
	king := pieces.Make(color, api.King)
	for s, number := range p.Board {
		if number == king {
			return s
		}
	}
	return none
}

func home(color uint8) int {
	if color == api.White {
		return 0
	}
	return ranks - 1
}
