package fen

import (
	"strconv"
	"strings"

	"kibitzer/api"
	"kibitzer/pieces"
	"kibitzer/rules"
	"kibitzer/squares"
)

// corners are, of each side, the file of the rook that has a letter of its own, and that letter.
var corners = [2]struct {
	file   int
	letter string
}{
	right: {files - 1, "k"},
	left:  {0, "q"},
}

// written is the text of a position that can be written, of any length.
func written(p api.Position) string {
	fields := []string{boardText(p) + pocketsText(p), turnText(p.Turn), rooksText(p), passingText(p.Passing)}
	if p.Variant == api.ThreeCheck {
		fields = append(fields, checksText(p.Checks))
	}
	fields = append(fields, strconv.Itoa(p.Half), strconv.Itoa(p.Full))
	return strings.Join(fields, blank)
}

func boardText(p api.Position) string {
	var texts []string
	for rank := ranks - 1; rank >= 0; rank-- {
		texts = append(texts, rankText(p, rank))
	}
	return strings.Join(texts, rankEnd)
}

func rankText(p api.Position, rank int) string {
	text, empty := "", 0
	for s := files * rank; s < files*(rank+1); s++ {
		if p.Board[s] == 0 {
			empty++
			continue
		}
		text += gapText(empty) + pieces.Letter(p.Board[s])
		empty = 0
		if isPromoted(p, s) {
			text += mark
		}
	}
	return text + gapText(empty)
}

// gapText: pieces that stand side by side have no digit between.
func gapText(empty int) string {
	if empty == 0 {
		return ""
	}
	return strconv.Itoa(empty)
}

func pocketsText(p api.Position) string {
	if !rules.Pockets(p.Variant) {
		return ""
	}
	text := opening
	for color := api.White; color <= api.Black; color++ {
		for kind, n := range p.Pockets[color] {
			text += strings.Repeat(pieces.Letter(pieces.Make(color, uint8(kind))), int(n))
		}
	}
	return text + closing
}

func turnText(color uint8) string {
	if color == api.White {
		return whiteTurn
	}
	return blackTurn
}

func rooksText(p api.Position) string {
	text := ""
	for color := api.White; color <= api.Black; color++ {
		for side, file := range p.Rooks[color] {
			if file != none {
				text += rookLetter(color, side, int(file))
			}
		}
	}
	if text == "" {
		return nothing
	}
	return text
}

func rookLetter(color uint8, side, file int) string {
	// A square of rank 0 has its file's number, and its text begins with that file's letter.
	letter := squares.Text(file)[:1]
	if corner := corners[side]; file == corner.file {
		letter = corner.letter
	}
	if color == api.White {
		return strings.ToUpper(letter)
	}
	return letter
}

func passingText(s int8) string {
	if s == none {
		return nothing
	}
	return squares.Text(int(s))
}

func checksText(checks [2]uint8) string {
	text := ""
	for _, n := range checks {
		text += plus + strconv.Itoa(int(n))
	}
	return text
}
