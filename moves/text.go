package moves

import (
	"kibitzer/api"
	"kibitzer/pieces"
	"kibitzer/squares"
)

// kingFile is where a king castles from, but in Chess960.
const kingFile = 4

// goals are the files that a castling's text names, but in Chess960, of each side.
var goals = [2]int{6, 2}

// noSquare is told of a file that there isn't.
const noSquare int8 = -1

// lastRank is Black's home.
const lastRank = 7

func dropText(m api.Move) string {
	letter, square := pieces.Letter(pieces.Make(api.White, m.Drop)), squares.Text(int(m.From))
	bare := m == api.Move{From: m.From, To: m.From, Drop: m.Drop}
	if !bare || m.Drop == api.King || letter == none || square == none {
		return none
	}
	return letter + mark + square
}

func plainText(p api.Position, m api.Move) string {
	text := endsText(m.From, m.To)
	if text == none || m.Promote == api.Pawn || m.Promote > api.King {
		return none
	}
	// A Promote of nothing makes no piece, which has the empty letter.
	text += pieces.Letter(pieces.Make(api.Black, m.Promote))
	if _, castling := castlingOf(p, text); castling {
		return none
	}
	return text
}

func castlingText(p api.Position, m api.Move) string {
	switch {
	case m.Promote != nothing || !castles(p, m):
		return none
	case p.Variant == api.Chess960:
		return endsText(m.From, m.To)
	}
	return endsText(m.From, onHome(p, goals[side(m)]))
}

// castles: whether From and To are the squares of a king and a rook by which who is to move is said to castle.
func castles(p api.Position, m api.Move) bool {
	switch {
	case endsText(m.From, m.To) == none || !stands(p, m.From, api.King):
		return false
	case p.Variant == api.Chess960:
		return stands(p, m.To, api.Rook)
	}
	return m.From == onHome(p, kingFile) && m.To == onHome(p, int(p.Rooks[p.Turn][side(m)]))
}

// endsText is the text of From and To, if they are two squares.
func endsText(from, to int8) string {
	first, second := squares.Text(int(from)), squares.Text(int(to))
	if first == none || second == none || first == second {
		return none
	}
	return first + second
}

// stands: whether a piece of that kind of who is to move stands on the square.
func stands(p api.Position, s int8, kind uint8) bool {
	return p.Board[s] == pieces.Make(p.Turn, kind)
}

// onHome is the square of that file of the home of who is to move.
func onHome(p api.Position, file int) int8 {
	rank := 0
	if p.Turn == api.Black {
		rank = lastRank
	}
	s, ok := squares.Of(file, rank)
	if !ok {
		return noSquare
	}
	return int8(s)
}

// side is that to which From's king castles with To's rook.
func side(m api.Move) int {
	if m.To > m.From {
		return 0
	}
	return 1
}
