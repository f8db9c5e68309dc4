package fen

import (
	"strconv"
	"strings"

	"kibitzer/api"
	"kibitzer/pieces"
	"kibitzer/squares"
)

// reader brings together a position, field by field, and what of the text is still to be read.
type reader struct {
	position api.Position
	rest     string
}

// read tells the position whose text that is, or ErrText.
func read(variant uint8, text string) (p api.Position, e api.Errno) {
	defer func() {
		if recover() != nil {
			p, e = api.Position{}, api.ErrText
		}
	}()
	r := reader{position: bare(variant), rest: text}
	inOrder(r.board, r.turn, r.rooks, r.passing, r.checks, r.half, r.full)
	// The methods take more than a field's one text (noughts ahead of a number, letters in another order), and leave what stands behind the last.
	demand(Print(r.position) == text)
	return r.position, api.OK
}

// bare is the variant's position of which no field has been read.
func bare(variant uint8) api.Position {
	return api.Position{Variant: variant, Rooks: [2][2]int8{{none, none}, {none, none}}, Passing: none}
}

func inOrder(fields ...func()) {
	for _, readField := range fields {
		readField()
	}
}

// demand throws, if something is asked of a field that it doesn't have: the text is no position's then.
func demand(ok bool) {
	if !ok {
		panic(api.ErrText)
	}
}

// must is the value that a call tells, and throws, if there is none.
func must[T any](value T, ok bool) T {
	demand(ok)
	return value
}

// next cuts the field ahead off what is still to be read.
func (r *reader) next() string {
	field, rest, _ := strings.Cut(r.rest, blank)
	r.rest = rest
	return field
}

func (r *reader) board() {
	board, letters, _ := strings.Cut(r.next(), opening)
	texts := strings.Split(board, rankEnd)
	demand(len(texts) == ranks)
	for i, text := range texts {
		r.rank(ranks-1-i, text)
	}
	r.pockets(strings.TrimSuffix(letters, closing))
}

func (r *reader) rank(rank int, text string) {
	file := 0
	for i := range len(text) {
		switch letter := text[i : i+1]; {
		case letter == mark:
			r.position.Promoted |= 1 << must(squares.Of(file-1, rank))
		case letter >= "1" && letter <= "8":
			file += number(letter)
		default:
			r.position.Board[must(squares.Of(file, rank))] = must(pieces.Parse(letter))
			file++
		}
	}
	demand(file == files)
}

func (r *reader) pockets(letters string) {
	for i := range len(letters) {
		piece := must(pieces.Parse(letters[i : i+1]))
		color, kind := pieces.Color(piece), pieces.Kind(piece)
		demand(kind != api.King)
		r.position.Pockets[color][kind]++
	}
}

func (r *reader) turn() {
	switch r.next() {
	case whiteTurn:
		r.position.Turn = api.White
	case blackTurn:
		r.position.Turn = api.Black
	default:
		panic(api.ErrText)
	}
}

func (r *reader) rooks() {
	letters := r.next()
	if letters == nothing {
		return
	}
	for color := api.White; color <= api.Black; color++ {
		for side := range r.position.Rooks[color] {
			letters = r.rook(color, side, letters)
		}
	}
	demand(letters == "")
}

// rook reads that side's rook, if the letter ahead is that of one, and tells the letters behind it.
func (r *reader) rook(color uint8, side int, letters string) string {
	for file := range files {
		if !rookCan(r.position, color, side, file) {
			continue
		}
		if rest, ok := strings.CutPrefix(letters, rookLetter(color, side, file)); ok {
			r.position.Rooks[color][side] = int8(file)
			return rest
		}
	}
	return letters
}

func (r *reader) passing() {
	if text := r.next(); text != nothing {
		r.position.Passing = int8(must(squares.Parse(text)))
	}
}

func (r *reader) checks() {
	if r.position.Variant != api.ThreeCheck {
		return
	}
	text := r.next()
	demand(len(text) == len(checksText(r.position.Checks)))
	for color := range r.position.Checks {
		// What is no digit comes to more checks than can be written.
		r.position.Checks[color] = text[2*color+1] - '0'
	}
}

func (r *reader) half() { r.position.Half = number(r.next()) }

func (r *reader) full() { r.position.Full = number(r.next()) }

func number(text string) int {
	n, err := strconv.Atoi(text)
	return must(n, err == nil)
}
