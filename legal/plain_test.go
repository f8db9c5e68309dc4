package legal_test

import (
	"slices"
	"strings"

	"kibitzer/after"
	"kibitzer/api"
)

// men are the numbers of all pieces there are.
var men = []uint8{1, 2, 3, 4, 5, 6, 9, 10, 11, 12, 13, 14}

// strangers are numbers above 0 that are no pieces: between and beside those of pieces, and such as have a piece's number in their lower bits.
var strangers = []uint8{7, 8, 15, 16, 17, 20, 22, 24, 25, 30, 64, 65, 127, 128, 129, 137, 142, 249, 254, 255}

// variants are all there are; kingly are those in which neither king must be lost, but Racing, in which who gives check is not well either.
var (
	variants = []uint8{0, 1, 2, 3, 4, 5, 6, 7, 8}
	kingly   = []uint8{0, 1, 2, 3, 5, 6}
)

// at is the square of a text that is one's.
func at(text string) int { return int(text[0]-'a') + 8*int(text[1]-'1') }

// piece is that of a letter.
func piece(letter byte) uint8 {
	if i := strings.IndexByte("PNBRQK", letter); i >= 0 {
		return uint8(i + 1)
	}
	return uint8(strings.IndexByte("pnbrqk", letter) + 9)
}

// placed is a position of White's turn with what it is told: a letter and a square: that piece; =d6: a passing square; >h1, <a1: a right to castle with the rook of that square, on the side 0, the side 1; @Q: a queen in White's pocket; +: a check that White has given, -: one of Black's; black: it is Black's turn.
func placed(v uint8, texts string) api.Position {
	p := api.Position{Variant: v, Passing: -1, Rooks: [2][2]int8{{-1, -1}, {-1, -1}}, Full: 1}
	for _, text := range strings.Fields(texts) {
		switch text[0] {
		case '=':
			p.Passing = int8(at(text[1:]))
		case '>', '<':
			s := at(text[1:])
			p.Rooks[s/56][strings.IndexByte("><", text[0])] = int8(s % 8)
		case '@':
			man := piece(text[1])
			p.Pockets[man/8][man%8]++
		case '+':
			p.Checks[0]++
		case '-':
			p.Checks[1]++
		default:
			if text == "black" {
				p.Turn = 1
				continue
			}
			p.Board[at(text[1:])] = piece(text[0])
		}
	}
	return p
}

// move is that of a text: e2e4, e7e8q, N@f3; e1*h1 is a castling.
func move(text string) api.Move {
	m := api.Move{}
	switch {
	case text[1] == '@':
		s := int8(at(text[2:]))
		return api.Move{From: s, To: s, Drop: piece(text[0])}
	case text[2] == '*':
		return api.Move{From: int8(at(text)), To: int8(at(text[3:])), Castle: true}
	case len(text) > 4:
		m.Promote = piece(text[4]) - 8
	}
	m.From, m.To = int8(at(text)), int8(at(text[2:]))
	return m
}

// moves are those of the texts.
func moves(texts string) []api.Move {
	var l []api.Move
	for _, text := range strings.Fields(texts) {
		l = append(l, move(text))
	}
	return l
}

// turned is the position as the other color has it: the ranks turned about, the colors exchanged.
func turned(p api.Position) api.Position {
	q := p
	q.Promoted = 0
	for s, number := range p.Board {
		if isMan(number) {
			number ^= 8
		}
		q.Board[s^56] = number
		q.Promoted |= p.Promoted >> s & 1 << (s ^ 56)
	}
	q.Pockets[0], q.Pockets[1] = p.Pockets[1], p.Pockets[0]
	q.Rooks[0], q.Rooks[1] = p.Rooks[1], p.Rooks[0]
	q.Checks[0], q.Checks[1] = p.Checks[1], p.Checks[0]
	q.Turn = 1 - p.Turn
	if p.Passing >= 0 && p.Passing < 64 {
		q.Passing = p.Passing ^ 56
	}
	return q
}

// turnedMove is the move as the other color makes it.
func turnedMove(m api.Move) api.Move {
	m.From, m.To = m.From^56, m.To^56
	return m
}

// turnedResult is the result as the other color has it.
func turnedResult(r api.Result) api.Result {
	if r.State == 1 || r.State == 2 {
		r.State = 3 - r.State
	}
	return r
}

func isMan(number uint8) bool { return slices.Contains(men, number) }

func isOf(number, color uint8) bool { return isMan(number) && number>>3 == color }

func abs(n int) int { return max(n, -n) }

func sign(n int) int { return min(max(n, -1), 1) }

// beside: whether the one square is a neighbour of the other one.
func beside(a, b int) bool { return a != b && abs(a%8-b%8) <= 1 && abs(a/8-b/8) <= 1 }

// open: whether nothing stands between two squares that share a rank, a file or a slant.
func open(p api.Position, from, to int) bool {
	by := 8*sign(to/8-from/8) + sign(to%8-from%8)
	for s := from + by; s != to; s += by {
		if isMan(p.Board[s]) {
			return false
		}
	}
	return true
}

// attacks: whether what stands on the one square attacks the other one, told by their files and ranks.
func attacks(p api.Position, from, to int) bool {
	number := p.Board[from]
	if !isMan(number) || from == to {
		return false
	}
	file, rank := to%8-from%8, to/8-from/8
	straight, slanting := file == 0 || rank == 0, abs(file) == abs(rank)
	switch number & 7 {
	case 1:
		return abs(file) == 1 && rank == 1-2*int(number>>3)
	case 2:
		return abs(file*rank) == 2
	case 3:
		return slanting && open(p, from, to)
	case 4:
		return straight && open(p, from, to)
	case 5:
		return (straight || slanting) && open(p, from, to)
	}
	return abs(file) <= 1 && abs(rank) <= 1
}

// plainKing is the square of the color's first king, -1 if there is none.
func plainKing(p api.Position, color uint8) int {
	return slices.Index(p.Board[:], 8*color+6)
}

// plainAttacked: whether the color's first king stands where the other one takes, and not, in Atomic, beside the other one's.
func plainAttacked(p api.Position, color uint8) bool {
	king, attacked := plainKing(p, color), false
	for s, number := range p.Board {
		if king < 0 || !isOf(number, 1-color) {
			continue
		}
		if p.Variant == api.Atomic && number&7 == 6 && beside(s, king) {
			return false
		}
		attacked = attacked || attacks(p, s, king)
	}
	return attacked
}

// plainRoyal: whether the color's king must not be lost.
func plainRoyal(v, color uint8) bool {
	return v != api.Antichess && (v != api.Horde || color == api.Black)
}

// plainWell: whether the move may be made, and leaves all well.
func plainWell(p api.Position, m api.Move) bool {
	behind, ok := after.Move(p, m)
	switch {
	case !ok:
		return false
	case p.Variant == api.Racing && plainAttacked(behind, 1-p.Turn):
		return false
	case !plainRoyal(p.Variant, p.Turn):
		return true
	case plainKing(behind, p.Turn) < 0:
		return false
	case p.Variant == api.Atomic && plainKing(behind, 1-p.Turn) < 0:
		return true
	}
	return !plainAttacked(behind, p.Turn)
}

// plainTakes: whether a move that may be made takes.
func plainTakes(p api.Position, m api.Move) bool {
	switch {
	case m.Castle || m.Drop > 0:
		return false
	case isOf(p.Board[m.To], 1-p.Turn):
		return true
	}
	return p.Board[m.From]&7 == 1 && m.To == p.Passing && m.To%8 != m.From%8
}

// plainWould are the moves that would be.
func plainWould(p api.Position) []api.Move {
	var l, takes []api.Move
	for _, m := range after.All(p) {
		if !plainWell(p, m) {
			continue
		}
		l = append(l, m)
		if plainTakes(p, m) {
			takes = append(takes, m)
		}
	}
	if p.Variant == api.Antichess && len(takes) > 0 {
		return takes
	}
	return l
}

// plainWon is the win of a position, a color and a reason after the other.
func plainWon(p api.Position) api.Result {
	if p.Turn > 1 {
		return api.Result{}
	}
	count := func(color uint8) int {
		n := 0
		for _, number := range p.Board {
			if isOf(number, color) {
				n++
			}
		}
		return n
	}
	kings := [2]int{plainKing(p, 0), plainKing(p, 1)}
	wins := [2]bool{}
	last, why := 1-p.Turn, uint8(0)
	switch p.Variant {
	case api.Atomic:
		wins[1-p.Turn], why = kings[p.Turn] < 0, api.ByKing
	case api.ThreeCheck:
		wins, why = [2]bool{p.Checks[0] > 2, p.Checks[1] > 2}, api.ByChecks
	case api.KingHill:
		for color, king := range kings {
			wins[color] = king >= 0 && (king/8 == 3 || king/8 == 4) && (king%8 == 3 || king%8 == 4)
		}
		why = api.ByKing
	case api.Horde:
		wins[1], why = count(0) == 0, api.ByLast
	case api.Antichess:
		wins, why, last = [2]bool{count(0) == 0, count(1) == 0}, api.ByLast, p.Turn
	case api.Racing:
		return plainRace(p, kings)
	}
	switch {
	case wins[0] && wins[1]:
		return api.Result{State: last + 1, Why: why}
	case wins[0]:
		return api.Result{State: 1, Why: why}
	case wins[1]:
		return api.Result{State: 2, Why: why}
	}
	return api.Result{}
}

// plainRace is the win of a position of Racing. Where Black has several kings, a move brings the first one to rank 7 if there is one less where it stood, and one more there.
func plainRace(p api.Position, kings [2]int) api.Result {
	switch {
	case kings[0] < 56 && kings[1] < 56:
		return api.Result{}
	case kings[0] >= 56 && kings[1] >= 56:
		return api.Result{State: 3, Why: api.ByKing}
	case kings[1] >= 56:
		return api.Result{State: 2, Why: api.ByKing}
	}
	for _, m := range plainWould(p) {
		behind, _ := after.Move(p, m)
		if p.Turn == 1 && behind.Board[kings[1]] != 14 && kingsOnRank7(behind) > kingsOnRank7(p) {
			return api.Result{}
		}
	}
	return api.Result{State: 1, Why: api.ByKing}
}

// kingsOnRank7 is how many of Black's there are.
func kingsOnRank7(p api.Position) int {
	n := 0
	for _, number := range p.Board[56:] {
		if number == 14 {
			n++
		}
	}
	return n
}

// plainList are the moves that may be.
func plainList(p api.Position) []api.Move {
	if plainWon(p).State != 0 {
		return nil
	}
	return plainWould(p)
}
