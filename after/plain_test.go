package after_test

import (
	"slices"
	"strings"

	"kibitzer/api"
	"kibitzer/attack"
)

// men are the numbers of all pieces there are.
var men = []uint8{1, 2, 3, 4, 5, 6, 9, 10, 11, 12, 13, 14}

// strangers are numbers above 0 that are no pieces: between and beside those of pieces, and such as have a piece's number in their lower bits.
var strangers = []uint8{7, 8, 15, 16, 17, 20, 22, 24, 25, 30, 64, 65, 127, 128, 129, 137, 142, 249, 254, 255}

// variants are all there are.
var variants = []uint8{0, 1, 2, 3, 4, 5, 6, 7, 8}

// at is the square of a text that is one's.
func at(text string) int { return int(text[0]-'a') + 8*int(text[1]-'1') }

// piece is that of a letter.
func piece(letter byte) uint8 {
	if i := strings.IndexByte("PNBRQK", letter); i >= 0 {
		return uint8(i + 1)
	}
	return uint8(strings.IndexByte("pnbrqk", letter) + 9)
}

// placed is a position of White's turn with what it is told: a letter and a square: that piece; =d6: a passing square; ~d6: a mark in Promoted; >h1, <a1: a right to castle with the rook of that square, on the side 0, the side 1; @Q: a queen in White's pocket.
func placed(v uint8, texts string) api.Position {
	p := api.Position{Variant: v, Passing: -1, Rooks: [2][2]int8{{-1, -1}, {-1, -1}}, Full: 1}
	for _, text := range strings.Fields(texts) {
		switch text[0] {
		case '=':
			p.Passing = int8(at(text[1:]))
		case '~':
			p.Promoted |= 1 << at(text[1:])
		case '>', '<':
			s := at(text[1:])
			p.Rooks[s/56][strings.IndexByte("><", text[0])] = int8(s % 8)
		case '@':
			man := piece(text[1])
			p.Pockets[man/8][man%8]++
		default:
			p.Board[at(text[1:])] = piece(text[0])
		}
	}
	return p
}

// move is that of a text: e2e4, e7e8q, N@f3; e1*h1 is a castling.
func move(text string) api.Move {
	m := api.Move{From: int8(at(text[:2]))}
	switch {
	case text[1] == '@':
		m.From = int8(at(text[2:]))
		return api.Move{From: m.From, To: m.From, Drop: piece(text[0])}
	case text[2] == '*':
		return api.Move{From: m.From, To: int8(at(text[3:])), Castle: true}
	case len(text) > 4:
		m.Promote = piece(text[4]) - 8
	}
	m.To = int8(at(text[2:4]))
	return m
}

// turned is the position as the other color has it: the ranks turned about, the colors exchanged.
func turned(p api.Position) api.Position {
	q := p
	q.Promoted = 0
	for s, number := range p.Board {
		if isMan(number) {
			number ^= 8
		}
		q.Board[s^56] = number
		q.Promoted |= p.Promoted >> s & 1 << (s ^ 56)
	}
	q.Pockets[0], q.Pockets[1] = p.Pockets[1], p.Pockets[0]
	q.Rooks[0], q.Rooks[1] = p.Rooks[1], p.Rooks[0]
	q.Checks[0], q.Checks[1] = p.Checks[1], p.Checks[0]
	q.Turn = 1 - p.Turn
	if p.Passing >= 0 && p.Passing < 64 {
		q.Passing = p.Passing ^ 56
	}
	return q
}

// turnedMove is the move as the other color makes it.
func turnedMove(m api.Move) api.Move {
	m.From, m.To = m.From^56, m.To^56
	return m
}

func isMan(number uint8) bool { return slices.Contains(men, number) }

func isOf(number, color uint8) bool { return isMan(number) && number>>3 == color }

func abs(n int) int { return max(n, -n) }

// beside: whether the one square is a neighbour of the other one.
func beside(a, b int) bool { return a != b && abs(a%8-b%8) <= 1 && abs(a/8-b/8) <= 1 }

// plainTaken is the square of what a move that may be made takes, -1 if it takes nothing.
func plainTaken(p api.Position, m api.Move) int {
	switch {
	case m.Castle || m.Drop > 0:
		return -1
	case isOf(p.Board[m.To], 1-p.Turn):
		return int(m.To)
	case p.Board[m.From]&7 == 1 && m.To == p.Passing && m.To%8 != m.From%8:
		return int(m.To) - 8 + 16*int(p.Turn)
	}
	return -1
}

// plainBoard is what stands where behind a move that may be made.
func plainBoard(p api.Position, m api.Move) [64]uint8 {
	b, home, black := p.Board, 56*int(p.Turn), 8*p.Turn
	switch {
	case m.Castle:
		b[m.From], b[m.To] = 0, 0
		if m.To > m.From {
			b[home+5], b[home+6] = black+4, black+6
		} else {
			b[home+3], b[home+2] = black+4, black+6
		}
	case m.Drop > 0:
		b[m.To] = black + m.Drop
	default:
		man := b[m.From]
		if m.Promote > 0 {
			man = black + m.Promote
		}
		taken := plainTaken(p, m)
		if taken >= 0 {
			b[taken] = 0
		}
		b[m.From], b[m.To] = 0, man
		if taken >= 0 && p.Variant == api.Atomic {
			plainBlast(&b, int(m.To))
		}
	}
	return b
}

func plainBlast(b *[64]uint8, to int) {
	b[to] = 0
	for s, number := range b {
		if beside(s, to) && isMan(number) && number&7 != 1 {
			b[s] = 0
		}
	}
}

// plainPockets are both pockets behind the move.
func plainPockets(p api.Position, m api.Move) [2][6]uint8 {
	pockets := p.Pockets
	if m.Drop > 0 {
		pockets[p.Turn][m.Drop]--
	}
	taken := plainTaken(p, m)
	if p.Variant != api.Crazyhouse || taken < 0 || !isMan(p.Board[taken]) {
		return pockets
	}
	kind := p.Board[taken] & 7
	if p.Promoted>>taken&1 == 1 {
		kind = 1
	}
	if kind < 6 && pockets[p.Turn][kind] < 255 {
		pockets[p.Turn][kind]++
	}
	return pockets
}

// plainPromoted are the marks behind the move, asked for square by square.
func plainPromoted(p api.Position, m api.Move) uint64 {
	if p.Variant != api.Crazyhouse || m.Drop > 0 {
		return p.Promoted
	}
	marks := uint64(0)
	taken, goal := plainTaken(p, m), 56*int(p.Turn)+3
	if m.To > m.From {
		goal += 2
	}
	for s := range 64 {
		marked := p.Promoted>>s&1 == 1
		switch {
		case m.Castle && s == goal:
			marked = marked || p.Promoted>>m.To&1 == 1
		case m.Castle:
			marked = marked && s != int(m.To)
		case s == int(m.To):
			marked = marked && s != taken || p.Promoted>>m.From&1 == 1 || m.Promote > 0
		default:
			marked = marked && s != taken && s != int(m.From)
		}
		if marked {
			marks |= 1 << s
		}
	}
	return marks
}

// plainRooks are the rights behind the move; b is what stands where then.
func plainRooks(p api.Position, m api.Move, b [64]uint8) [2][2]int8 {
	rooks := [2][2]int8{{-1, -1}, {-1, -1}}
	for color := range 2 {
		if color == int(p.Turn) && m.Drop == 0 && p.Board[m.From]&7 == 6 {
			continue
		}
		home := 56 * color
		king := slices.Index(b[:], uint8(8*color+6))
		for side, file := range p.Rooks[color] {
			rook := home + int(file)
			if file >= 0 && file <= 7 && king/8 == home/8 && king >= 0 && b[rook] == uint8(8*color+4) && rook != plainTaken(p, m) {
				rooks[color][side] = file
			}
		}
	}
	return rooks
}

// plainPassing is the square that is passing behind the move; b is what stands where then.
func plainPassing(p api.Position, m api.Move, b [64]uint8) int8 {
	first, up := 1, 8
	if p.Turn == 1 {
		first, up = 6, -8
	}
	if m.Drop > 0 || p.Board[m.From]&7 != 1 || int(m.From)/8 != first || int(m.To) != int(m.From)+2*up {
		return -1
	}
	for _, file := range []int{int(m.To)%8 - 1, int(m.To)%8 + 1} {
		if file >= 0 && file <= 7 && b[int(m.To)/8*8+file] == 9-8*p.Turn {
			return m.From + int8(up)
		}
	}
	return -1
}

// plainMove is the position behind a move that may be made, point by point of the chapter's words.
func plainMove(p api.Position, m api.Move) api.Position {
	q := p
	q.Board = plainBoard(p, m)
	q.Pockets, q.Promoted = plainPockets(p, m), plainPromoted(p, m)
	q.Rooks, q.Passing = plainRooks(p, m, q.Board), plainPassing(p, m, q.Board)
	pawn := m.Drop == 1 || m.Drop == 0 && p.Board[m.From]&7 == 1
	switch {
	case pawn || plainTaken(p, m) >= 0:
		q.Half = 0
	case p.Half < api.MaxClock:
		q.Half = p.Half + 1
	}
	if p.Turn == 1 && p.Full < api.MaxClock {
		q.Full = p.Full + 1
	}
	q.Turn = 1 - p.Turn
	if p.Variant == api.ThreeCheck && attack.Check(q, q.Turn) && p.Checks[p.Turn] < 3 {
		q.Checks[p.Turn] = p.Checks[p.Turn] + 1
	}
	return q
}
