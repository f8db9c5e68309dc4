package moves_test

import (
	"testing"

	"kibitzer/api"
	"kibitzer/moves"
)

// P11.3

// checkBack: a move that has a text is read from it, and has that text again; it tells the text.
func checkBack(t *testing.T, p api.Position, m api.Move) string {
	t.Helper()
	text := moves.Text(p, m)
	if text == "" {
		return ""
	}
	got, e := moves.Parse(p, text)
	if e != api.OK || got != m {
		t.Errorf("%q of %+v is read as %d %+v, in %+v", text, m, e, got, p)
	}
	if again := moves.Text(p, got); again != text {
		t.Errorf("%q is written as %q, in %+v", text, again, p)
	}
	return text
}

// TestThereAndBack: each move that might have a text, those beside the board, too; two of them never have the same.
func TestThereAndBack(t *testing.T) {
	t.Parallel()
	for v := range api.Variants {
		for _, p := range lots(v) {
			seen := map[string]api.Move{}
			see := func(m api.Move) {
				text := checkBack(t, p, m)
				if other, ok := seen[text]; ok && text != "" {
					t.Errorf("%q: of both %+v and %+v, in %+v", text, m, other, p)
				}
				seen[text] = m
			}
			for from := int8(-1); from < 65; from++ {
				for to := int8(-1); to < 65; to++ {
					for k := range uint8(8) {
						see(api.Move{From: from, To: to, Promote: k})
					}
					see(api.Move{From: from, To: to, Castle: true})
				}
				for k := uint8(1); k < 8; k++ {
					see(api.Move{From: from, To: from, Drop: k})
				}
			}
			if delete(seen, ""); len(seen) != 64*63*6+64*5 {
				t.Errorf("%d texts in %+v", len(seen), p)
			}
		}
	}
}

// TestBackAndThere: what is read of a text has that text.
func TestBackAndThere(t *testing.T) {
	d := dice(115)
	for range 200 {
		p := d.wild()
		for range 500 {
			text := []byte(sample[d.below(len(sample))])
			for range d.below(3) {
				text[d.below(len(text))] = odd[d.below(len(odd))]
			}
			m, e := moves.Parse(p, string(text))
			if e == api.OK && moves.Text(p, m) != string(text) {
				t.Errorf("%q is read as %+v, written as %q, in %+v", text, m, moves.Text(p, m), p)
			}
			if e != api.OK && m != (api.Move{}) {
				t.Errorf("%q: %d %+v, in %+v", text, e, m, p)
			}
		}
	}
}

// TestAnyMovesBack: any moves, in any positions.
func TestAnyMovesBack(t *testing.T) {
	d := dice(116)
	texts := 0
	for range 300 {
		p := d.wild()
		if d.below(2) == 0 {
			p = d.filled(uint8(d.below(9)))
		}
		for range 500 {
			if checkBack(t, p, d.move()) != "" {
				texts++
			}
		}
	}
	if texts < 10000 {
		t.Errorf("only %d texts", texts)
	}
}

// P11.4

// castlingsOf are the texts of two squares that are read as castlings.
func castlingsOf(t *testing.T, p api.Position) map[string]api.Move {
	t.Helper()
	l := map[string]api.Move{}
	for from := range int8(64) {
		for to := range int8(64) {
			text := plainSquare(from) + plainSquare(to)
			if m, e := moves.Parse(p, text); e == api.OK && m.Castle {
				l[text] = m
			}
			if s := moves.Text(p, api.Move{From: from, To: to, Castle: true}); s != "" {
				if m, ok := l[s]; ok && m != (api.Move{From: from, To: to, Castle: true}) {
					t.Errorf("%q: of %+v, too", s, m)
				}
				l[s] = api.Move{From: from, To: to, Castle: true}
			}
		}
	}
	return l
}

// TestKingAtHome: with the king at home there are castlings, without it none: taken away, put elsewhere, or another piece in its place.
func TestKingAtHome(t *testing.T) {
	each(func(v, turn uint8) {
		p := castler(v, turn)
		if l := castlingsOf(t, p); len(l) != 2 {
			t.Errorf("%d %d: %v", v, turn, l)
		}
		for n := range uint8(16) {
			q := p
			if q.Board[home(p, 4)] = n; n == 8*turn+6 {
				continue
			}
			if l := castlingsOf(t, q); len(l) != 0 {
				t.Errorf("%d %d: %v, with %d in the king's place", v, turn, l, n)
			}
		}
		for _, text := range []string{"e1g1", "e1c1", "e1h1", "e1a1", "e8g8", "e8c8", "e8h8", "e8a8"} {
			q := p
			q.Board[home(p, 4)] = 0
			want := api.Move{From: int8(text[0]-'a') + 8*int8(text[1]-'1'), To: int8(text[2]-'a') + 8*int8(text[3]-'1')}
			if m, e := moves.Parse(q, text); e != api.OK || m != want {
				t.Errorf("%d %d: %q is read as %d %+v, without a king", v, turn, text, e, m)
			}
			if got := moves.Text(q, want); got != text {
				t.Errorf("%d %d: %+v is written as %q, without a king", v, turn, want, got)
			}
		}
	})
}

// TestNoKingAtHome: kings of both colors stand on other ranks alone, whatever else is said of rooks. Chess960's row of the table asks for no home, but for a rook where To is: there no rook of who is to move stands anywhere.
func TestNoKingAtHome(t *testing.T) {
	d := dice(117)
	each(func(v, turn uint8) {
		for range 30 {
			p := d.filled(v)
			p.Turn = turn
			if d.below(2) == 0 {
				p.Rooks = [2][2]int8{{7, 0}, {7, 0}}
			}
			for s, n := range p.Board {
				if n == 6 && s < 8 || n == 14 && s >= 56 || v == api.Chess960 && n == 8*turn+4 {
					p.Board[s] = 0
				}
			}
			if l := castlingsOf(t, p); len(l) != 0 {
				t.Errorf("%v, in %+v", l, p)
			}
		}
	})
}

// TestOtherKings: on any home none but the own king makes a castling, and in all variants but Chess960 none that stands beside the file 4.
func TestOtherKings(t *testing.T) {
	t.Parallel()
	each(func(v, turn uint8) {
		for s := range 64 {
			if s > 16 && s < 48 && s%9 != 0 {
				continue
			}
			for c := range uint8(2) {
				p := castler(v, turn)
				king := int(home(p, 4))
				p.Board[king] = 0
				p.Board[s] = 8*c + 6
				l := castlingsOf(t, p)
				if c == turn && v == api.Chess960 {
					continue
				}
				if (len(l) != 0) != (c == turn && s == king) {
					t.Errorf("%d %d: %v, with %d's king on %d", v, turn, l, c, s)
				}
			}
		}
	})
}
