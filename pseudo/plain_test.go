package pseudo_test

import (
	"math/bits"
	"slices"
	"strings"
	"testing"

	"kibitzer/api"
	"kibitzer/pseudo"
	"kibitzer/rules"
)

// men are the numbers of all pieces there are.
var men = []uint8{1, 2, 3, 4, 5, 6, 9, 10, 11, 12, 13, 14}

// strangers are numbers above 0 that are no pieces: between and beside those of pieces, and such as have a piece's number in their lower bits.
var strangers = []uint8{7, 8, 15, 16, 17, 22, 24, 30, 64, 65, 127, 128, 129, 133, 137, 142, 249, 254, 255}

// at is the square of a text that is one's.
func at(text string) int { return int(text[0]-'a') + 8*int(text[1]-'1') }

// piece is that of a letter.
func piece(letter byte) uint8 {
	if i := strings.IndexByte("PNBRQK", letter); i >= 0 {
		return uint8(i + 1)
	}
	return uint8(strings.IndexByte("pnbrqk", letter) + 9)
}

// placed is a position with the pieces that it is told: a letter and a square each; and with a passing square, if a text begins with the sign of equality.
func placed(v, turn uint8, texts string) api.Position {
	p := api.Position{Variant: v, Turn: turn, Passing: -1, Rooks: [2][2]int8{{-1, -1}, {-1, -1}}, Full: 1}
	for _, text := range strings.Fields(texts) {
		if text[0] == '=' {
			p.Passing = int8(at(text[1:]))
			continue
		}
		p.Board[at(text[1:])] = piece(text[0])
	}
	return p
}

// exchanged are the texts with the other color's letters.
func exchanged(texts string) string {
	l := strings.Fields(texts)
	for i, text := range l {
		letter := text[:1]
		if upper := strings.ToUpper(letter); upper != letter {
			letter = upper
		} else {
			letter = strings.ToLower(letter)
		}
		l[i] = letter + text[1:]
	}
	return strings.Join(l, " ")
}

// turned are the texts, of pieces or of squares, as the board is turned about: each square's rank is as far from the other end.
func turned(texts string) string {
	l := strings.Fields(texts)
	for i, text := range l {
		b := []byte(text)
		for j := range b {
			if b[j] >= '1' && b[j] <= '8' {
				b[j] = '1' + '8' - b[j]
			}
		}
		l[i] = string(b)
	}
	return strings.Join(l, " ")
}

// text is a move's: both squares, and the letter of what a pawn becomes.
func text(m api.Move) string {
	b := []byte{'a' + byte(m.From%8), '1' + byte(m.From/8), 'a' + byte(m.To%8), '1' + byte(m.To/8)}
	if m.Promote > 0 {
		b = append(b, "?nbrqk"[m.Promote-1])
	}
	return string(b)
}

// told are the moves as texts, in their order.
func told(list []api.Move) string {
	var l []string
	for _, m := range list {
		l = append(l, text(m))
	}
	return strings.Join(l, " ")
}

// manOf is the color and the kind of a number; false of one that is none's.
func manOf(number uint8) (color, kind uint8, ok bool) {
	i := slices.Index(men, number)
	if i < 0 {
		return 0, 0, false
	}
	return uint8(i / 6), uint8(i%6 + 1), true
}

func isOf(p api.Position, s int, color uint8) bool {
	c, _, ok := manOf(p.Board[s])
	return ok && c == color
}

func empty(p api.Position, s int) bool {
	_, _, ok := manOf(p.Board[s])
	return !ok
}

func abs(n int) int { return max(n, -n) }

func sign(n int) int { return min(max(n, -1), 1) }

// open: whether nothing stands on the squares between two that share a rank, a file or a slant.
func open(p api.Position, from, to int) bool {
	by := 8*sign(to/8-from/8) + sign(to%8-from%8)
	for s := from + by; s != to; s += by {
		if !empty(p, s) {
			return false
		}
	}
	return true
}

// attacks: whether a man of the kind on the one square attacks the other one, told by their files and ranks.
func attacks(p api.Position, color, kind uint8, from, to int) bool {
	if from == to {
		return false
	}
	file, rank := to%8-from%8, to/8-from/8
	straight, slanting := file == 0 || rank == 0, abs(file) == abs(rank)
	switch kind {
	case 1:
		return abs(file) == 1 && rank == 1-2*int(color)
	case 2:
		return abs(file*rank) == 2
	case 3:
		return slanting && open(p, from, to)
	case 4:
		return straight && open(p, from, to)
	case 5:
		return (straight || slanting) && open(p, from, to)
	}
	return abs(file) <= 1 && abs(rank) <= 1
}

// plainMay: whether what stands on the one square may go to the other one, point by point of the chapter's words.
func plainMay(p api.Position, from, to int) bool {
	color, kind, ok := manOf(p.Board[from])
	if !ok || p.Variant > 8 || p.Turn != color || isOf(p, to, color) {
		return false
	}
	attacked := attacks(p, color, kind, from, to)
	switch kind {
	case 1:
		return plainAhead(p, color, from, to) || attacked && (isOf(p, to, 1-color) || to == int(p.Passing))
	case 6:
		return attacked && (p.Variant != api.Atomic || empty(p, to))
	}
	return attacked
}

func plainAhead(p api.Position, color uint8, from, to int) bool {
	up, strides := 8, from/8 == 1 || from/8 == 0 && p.Variant == api.Horde
	if color == 1 {
		up, strides = -8, from/8 == 6
	}
	switch to - from {
	case up:
		return empty(p, to)
	case 2 * up:
		return strides && empty(p, from+up) && empty(p, to)
	}
	return false
}

// plainKinds are what may be told as Promote of what goes from the one square to the other one.
func plainKinds(p api.Position, from, to int) []uint8 {
	color, kind, _ := manOf(p.Board[from])
	if kind != 1 || to/8 != 7-7*int(color) {
		return []uint8{0}
	}
	switch p.Variant {
	case api.Antichess:
		return []uint8{2, 3, 4, 5, 6}
	case api.Racing:
		return nil
	}
	return []uint8{2, 3, 4, 5}
}

func plainList(p api.Position) []api.Move {
	var l []api.Move
	for from := range 64 {
		for to := range 64 {
			if !plainMay(p, from, to) {
				continue
			}
			for _, kind := range plainKinds(p, from, to) {
				l = append(l, api.Move{From: int8(from), To: int8(to), Promote: kind})
			}
		}
	}
	return l
}

// plainTaken is the square of what a move that may be made takes.
func plainTaken(p api.Position, m api.Move) int {
	color, kind, _ := manOf(p.Board[m.From])
	switch {
	case isOf(p, int(m.To), 1-color):
		return int(m.To)
	case kind == 1 && m.To == p.Passing && m.To%8 != m.From%8:
		return int(m.To) - 8 + 16*int(color)
	}
	return -1
}

// check holds the moves that are told of the position against those that the test wants, and plain reckoning against both.
func check(t *testing.T, what string, p api.Position, want string) {
	t.Helper()
	if plain := told(plainList(p)); plain != want {
		t.Fatalf("%s: the test wants %q, plainly it is %q: %+v", what, want, plain, p)
	}
	checkPlainly(t, what, p)
}

// checkPlainly holds List, Takes and Taken against what is reckoned plainly.
func checkPlainly(t *testing.T, what string, p api.Position) {
	t.Helper()
	want := plainList(p)
	got := pseudo.List(p)
	if !slices.Equal(got, want) {
		t.Errorf("%s: List %q, not %q: %+v", what, told(got), told(want), p)
	}
	for _, m := range want {
		checkTaken(t, what, p, m, plainTaken(p, m))
	}
}

func checkTaken(t *testing.T, what string, p api.Position, m api.Move, want int) {
	t.Helper()
	if got := pseudo.Taken(p, m); got != want {
		t.Errorf("%s: Taken of %+v: %d, not %d: %+v", what, m, got, want, p)
	}
	if got := pseudo.Takes(p, m); got != (want != -1) {
		t.Errorf("%s: Takes of %+v: %v: %+v", what, m, got, p)
	}
}

// dice tell numbers without order, the same ones in each run.
type dice uint64

func (d *dice) next() uint64 {
	*d = *d*6364136223846793005 + 1442695040888963407
	return bits.RotateLeft64(uint64(*d^*d>>29), 17)
}

func (d *dice) below(n int) int { return int((d.next() >> 33) % uint64(n)) }

func (d *dice) oneOf(list []uint8) uint8 { return list[d.below(len(list))] }

// filled is a position of which about so many of sixteen squares have pieces, and one of sixteen a number that is no piece's, with any square passing, or none.
func (d *dice) filled(thick int) api.Position {
	p := api.Position{Variant: uint8(d.below(9)), Turn: uint8(d.below(2)), Passing: int8(d.below(65) - 1)}
	for s := range p.Board {
		switch by := d.below(16); {
		case by < thick:
			p.Board[s] = d.oneOf(men)
		case by == 15:
			p.Board[s] = d.oneOf(strangers)
		}
	}
	return p
}

// first are the variants' first positions, with each color to move.
func first() []api.Position {
	var l []api.Position
	for v := range api.Variants {
		p, _ := rules.Start(v)
		l = append(l, p)
		p.Turn = 1
		l = append(l, p)
	}
	return l
}

// mixed are the first positions, and positions from nearly empty ones to nearly full ones.
func mixed() []api.Position {
	l := first()
	d := dice(13)
	for i := range 1500 {
		l = append(l, d.filled(1+i%15))
	}
	return l
}

// variants are all there are; colors, too.
var (
	variants = []uint8{0, 1, 2, 3, 4, 5, 6, 7, 8}
	colors   = []uint8{0, 1}
)
