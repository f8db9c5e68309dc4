package moves_test

import (
	"testing"

	"kibitzer/api"
	"kibitzer/moves"
	"kibitzer/rules"
)

// plainSquares are the texts of all squares, one behind the other.
const plainSquares = "a1b1c1d1e1f1g1h1a2b2c2d2e2f2g2h2a3b3c3d3e3f3g3h3a4b4c4d4e4f4g4h4a5b5c5d5e5f5g5h5a6b6c6d6e6f6g6h6a7b7c7d7e7f7g7h7a8b8c8d8e8f8g8h8"

func plainSquare(s int8) string { return plainSquares[2*int(s) : 2*int(s)+2] }

func isSquare(s int8) bool { return s >= 0 && s <= 63 }

// plainDrop, plainWay and plainCastling are the texts of the three rows of the chapter's table, each by its own words; the empty text, if the move isn't of that row.
func plainDrop(m api.Move) string {
	if m.Drop < 1 || m.Drop > 5 || m.From != m.To || !isSquare(m.From) || m.Promote != 0 || m.Castle {
		return ""
	}
	return "PNBRQ"[m.Drop-1:m.Drop] + "@" + plainSquare(m.From)
}

func plainWay(m api.Move) string {
	if !isSquare(m.From) || !isSquare(m.To) || m.From == m.To || m.Drop != 0 || m.Castle {
		return ""
	}
	text := plainSquare(m.From) + plainSquare(m.To)
	switch m.Promote {
	case 0:
		return text
	case 2, 3, 4, 5, 6:
		return text + "nbrqk"[m.Promote-2:m.Promote-1]
	}
	return ""
}

func plainCastling(p api.Position, m api.Move) string {
	if !m.Castle || !isSquare(m.From) || !isSquare(m.To) || m.From == m.To || m.Promote != 0 || m.Drop != 0 {
		return ""
	}
	if p.Board[m.From] != 8*p.Turn+6 {
		return ""
	}
	if p.Variant == 1 {
		if p.Board[m.To] != 8*p.Turn+4 {
			return ""
		}
		return plainSquare(m.From) + plainSquare(m.To)
	}
	d, goal := 1, "c"
	if m.To > m.From {
		d, goal = 0, "g"
	}
	rank, first := "1", 0
	if p.Turn == 1 {
		rank, first = "8", 56
	}
	f := int(p.Rooks[p.Turn][d])
	if int(m.From) != first+4 || f < 0 || f > 7 || int(m.To) != first+f {
		return ""
	}
	return "e" + rank + goal + rank
}

// plain is a position, and what is reckoned of it: its castlings, and the moves of all texts, once they are asked for.
type plain struct {
	p         api.Position
	castlings map[string]api.Move
	texts     map[string]api.Move
}

func plainOf(t *testing.T, p api.Position) *plain {
	t.Helper()
	o := &plain{p: p, castlings: map[string]api.Move{}}
	if p.Variant > 8 || p.Turn > 1 {
		return o
	}
	for from := range int8(64) {
		for to := range int8(64) {
			m := api.Move{From: from, To: to, Castle: true}
			if text := plainCastling(p, m); text != "" {
				put(t, o.castlings, text, m)
			}
		}
	}
	return o
}

// all goes through all moves that might have a text.
func (o *plain) all(t *testing.T) map[string]api.Move {
	t.Helper()
	if o.texts != nil || o.p.Variant > 8 || o.p.Turn > 1 {
		return o.texts
	}
	o.texts = map[string]api.Move{}
	for text, m := range o.castlings {
		o.texts[text] = m
	}
	for from := range int8(64) {
		for k := range uint8(7) {
			for to := range int8(64) {
				m := api.Move{From: from, To: to, Promote: k}
				put(t, o.texts, o.text(m), m)
			}
			m := api.Move{From: from, To: from, Drop: k}
			put(t, o.texts, o.text(m), m)
		}
	}
	return o.texts
}

func put(t *testing.T, l map[string]api.Move, text string, m api.Move) {
	t.Helper()
	if other, ok := l[text]; ok && m != other {
		t.Errorf("the table has two moves with %q: %+v, %+v", text, m, other)
	}
	if text != "" {
		l[text] = m
	}
}

// text is that of any move.
func (o *plain) text(m api.Move) string {
	if o.p.Variant > 8 || o.p.Turn > 1 {
		return ""
	}
	if text := plainWay(m); text != "" {
		if _, ok := o.castlings[text]; ok {
			return ""
		}
		return text
	}
	return plainDrop(m) + plainCastling(o.p, m)
}

// checkText: Text tells what is reckoned; it tells whether that is a text.
func checkText(t *testing.T, o *plain, m api.Move) bool {
	t.Helper()
	want := o.text(m)
	if got := moves.Text(o.p, m); got != want {
		t.Errorf("Text of %+v: %q, not %q, in %+v", m, got, want, o.p)
	}
	return want != ""
}

// checkNone: neither Text nor the table has a text for the move.
func checkNone(t *testing.T, o *plain, m api.Move) {
	t.Helper()
	if got := moves.Text(o.p, m); got != "" || o.text(m) != "" {
		t.Errorf("Text of %+v: %q, reckoned %q, in %+v", m, got, o.text(m), o.p)
	}
}

// checkParse: Parse tells the move, or the error, that are reckoned; it tells whether there is a move.
func checkParse(t *testing.T, o *plain, text string) bool {
	t.Helper()
	want, ok := o.all(t)[text]
	wantErr := api.OK
	if o.p.Variant > 8 || o.p.Turn > 1 {
		wantErr = api.ErrArg
	} else if !ok {
		wantErr = api.ErrText
	}
	if got, e := moves.Parse(o.p, text); e != wantErr || got != want {
		t.Errorf("Parse of %q: %d %+v, not %d %+v, in %+v", text, e, got, wantErr, want, o.p)
	}
	return ok
}

// checkRefused: the text is refused with that error, and no move told.
func checkRefused(t *testing.T, p api.Position, text string, want api.Errno) {
	t.Helper()
	if m, e := moves.Parse(p, text); e != want || m != (api.Move{}) {
		t.Errorf("Parse of %q: %d %+v, not %d, in %+v", text, e, m, want, p)
	}
}

// start is the variant's first position, with that Turn.
func start(v, turn uint8) api.Position {
	p, _ := rules.Start(v)
	p.Turn = turn
	return p
}

// bare is the variant's position with an empty board and all fields at nothing.
func bare(v, turn uint8) api.Position {
	return api.Position{Variant: v, Turn: turn, Passing: -1, Rooks: [2][2]int8{{-1, -1}, {-1, -1}}}
}

// home is a square of who is to move's home.
func home(p api.Position, file int) int8 { return int8(56*int(p.Turn) + file) }

// castler is a position of which who is to move has its king on the file 4 of its home, rooks on 7 and 0, and may castle to both sides.
func castler(v, turn uint8) api.Position {
	p := bare(v, turn)
	p.Board[home(p, 4)] = 8*turn + 6
	p.Board[home(p, 7)] = 8*turn + 4
	p.Board[home(p, 0)] = 8*turn + 4
	p.Rooks[turn] = [2]int8{7, 0}
	return p
}

// each calls for all variants and both Turns.
func each(do func(v, turn uint8)) {
	for v := range api.Variants {
		for turn := range uint8(2) {
			do(v, turn)
		}
	}
}

// dice tell numbers without order, the same ones in each run.
type dice uint64

func (d *dice) next() uint64 {
	*d = *d*6364136223846793005 + 1442695040888963407
	return uint64(*d ^ *d>>29)
}

func (d *dice) below(n int) int { return int((d.next() >> 33) % uint64(n)) }

// filled is a position of the variant with kings and rooks of both colors on many squares, and with rights of any kind.
func (d *dice) filled(v uint8) api.Position {
	p := bare(v, uint8(d.below(2)))
	men := []uint8{0, 0, 0, 1, 4, 5, 6, 7, 9, 12, 12, 14, 15, 22}
	for s := range p.Board {
		p.Board[s] = men[d.below(len(men))]
	}
	for c := range 2 {
		p.Rooks[c] = [2]int8{int8(d.below(12) - 2), int8(d.below(12) - 2)}
		if d.below(3) > 0 {
			p.Board[56*c+4] = uint8(8*c + 6)
		}
	}
	return p
}

// wild is a position each of whose bytes is any one.
func (d *dice) wild() api.Position {
	p := api.Position{Variant: uint8(d.below(10)), Promoted: d.next(), Turn: uint8(d.below(3)), Passing: int8(d.next()), Half: int(d.next()), Full: int(d.next())}
	for s := range p.Board {
		p.Board[s] = uint8(d.next())
	}
	for c := range 2 {
		p.Rooks[c] = [2]int8{int8(d.next()), int8(d.next())}
		for k := range 6 {
			p.Pockets[c][k] = uint8(d.next())
		}
		p.Checks[c] = uint8(d.next())
	}
	return p
}

// move is any one, its numbers mostly not far from those that there are.
func (d *dice) move() api.Move {
	if d.below(4) == 0 {
		return api.Move{From: int8(d.next()), To: int8(d.next()), Promote: uint8(d.next()), Drop: uint8(d.next()), Castle: d.below(2) == 0}
	}
	m := api.Move{From: int8(d.below(66) - 1), To: int8(d.below(66) - 1), Castle: d.below(3) == 0}
	switch d.below(4) {
	case 0:
		m.Promote = uint8(d.below(8))
	case 1:
		m.Drop, m.To = uint8(d.below(8)), m.From
	case 2:
		m.From, m.To = int8(d.below(2)*56+4), int8(d.below(2)*56+d.below(8))
	}
	return m
}
