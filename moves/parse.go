package moves

import (
	"strings"

	"kibitzer/api"
	"kibitzer/pieces"
	"kibitzer/squares"
)

// endLength is how many bytes the text of From has, and that of To.
const endLength = 2

// try tells the move whose text that is, or refuses.
type try func(text string) (api.Move, bool)

// tries holds what a text may be in the position.
func tries(p api.Position) [3]try {
	// The readers take any text, and leave at nothing what they don't find in it: what they read counts only if it is written as that very text.
	checked := func(read func(text string) api.Move) try {
		return func(text string) (api.Move, bool) {
			m := read(text)
			return m, isWritten(Text(p, m), text)
		}
	}
	return [...]try{
		func(text string) (api.Move, bool) { return castlingOf(p, text) },
		checked(readPlain),
		checked(readDrop),
	}
}

// castlingOf tells the castling whose text that is in the position.
func castlingOf(p api.Position, text string) (api.Move, bool) {
	m, _ := readEnds(text)
	if p.Variant != api.Chess960 {
		// The king's goal lies to the same side of it as the rook.
		m.To = onHome(p, int(p.Rooks[p.Turn][side(m)]))
	}
	m.Castle = true
	return m, isWritten(castlingText(p, m), text)
}

func readPlain(text string) api.Move {
	m, letter := readEnds(text)
	m.Promote = readKind(letter)
	return m
}

func readDrop(text string) api.Move {
	letter, square, _ := strings.Cut(text, mark)
	s, _ := squares.Parse(square)
	return api.Move{From: int8(s), To: int8(s), Drop: readKind(letter)}
}

// readEnds reads From and To, which stand ahead in a text, and tells what stands behind them.
func readEnds(text string) (m api.Move, rest string) {
	if len(text) < 2*endLength {
		return api.Move{}, none
	}
	from, _ := squares.Parse(text[:endLength])
	to, _ := squares.Parse(text[endLength : 2*endLength])
	return api.Move{From: int8(from), To: int8(to)}, text[2*endLength:]
}

// readKind tells the kind of that letter, of either case; nothing, if it is none's.
func readKind(letter string) uint8 {
	piece, _ := pieces.Parse(letter)
	return pieces.Kind(piece)
}

// isWritten: whether a move is written as that text, and not as none.
func isWritten(written, text string) bool { return written != none && written == text }
