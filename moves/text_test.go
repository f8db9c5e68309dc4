package moves_test

import (
	"math"
	"testing"

	"kibitzer/api"
	"kibitzer/moves"
)

// P11.1

// known are moves and their texts, written by hand; of the empty text there is none.
var known = []struct {
	p    api.Position
	m    api.Move
	want string
}{
	{start(0, 0), api.Move{From: 12, To: 28}, "e2e4"},
	{start(0, 0), api.Move{From: 52, To: 60, Promote: 5}, "e7e8q"},
	{start(0, 0), api.Move{From: 4, To: 7, Castle: true}, "e1g1"},
	{start(0, 0), api.Move{From: 4, To: 0, Castle: true}, "e1c1"},
	{start(0, 0), api.Move{From: 4, To: 6}, ""},
	{start(0, 0), api.Move{From: 4, To: 2}, ""},
	{start(0, 0), api.Move{From: 4, To: 7}, "e1h1"},
	{start(0, 0), api.Move{From: 4, To: 0}, "e1a1"},
	{start(0, 0), api.Move{From: 4, To: 6, Promote: 5}, "e1g1q"},
	{start(0, 0), api.Move{From: 60, To: 62}, "e8g8"},
	{start(0, 0), api.Move{From: 60, To: 63, Castle: true}, ""},
	{start(0, 1), api.Move{From: 60, To: 63, Castle: true}, "e8g8"},
	{start(0, 1), api.Move{From: 60, To: 56, Castle: true}, "e8c8"},
	{start(0, 1), api.Move{From: 60, To: 62}, ""},
	{start(0, 1), api.Move{From: 4, To: 6}, "e1g1"},
	{start(1, 0), api.Move{From: 4, To: 7, Castle: true}, "e1h1"},
	{start(1, 0), api.Move{From: 4, To: 0, Castle: true}, "e1a1"},
	{start(1, 0), api.Move{From: 4, To: 7}, ""},
	{start(1, 0), api.Move{From: 4, To: 0}, ""},
	{start(1, 0), api.Move{From: 4, To: 6}, "e1g1"},
	{start(1, 0), api.Move{From: 4, To: 6, Castle: true}, ""},
	{start(1, 0), api.Move{From: 4, To: 7, Promote: 4}, "e1h1r"},
	{start(1, 1), api.Move{From: 60, To: 63, Castle: true}, "e8h8"},
	{start(1, 1), api.Move{From: 4, To: 7}, "e1h1"},
	{start(2, 0), api.Move{From: 21, To: 21, Drop: 2}, "N@f3"},
	{start(2, 1), api.Move{From: 21, To: 21, Drop: 2}, "N@f3"},
	{start(2, 0), api.Move{From: 21, To: 21, Drop: 6}, ""},
	{start(2, 0), api.Move{From: 63, To: 63, Drop: 1}, "P@h8"},
	{start(4, 0), api.Move{From: 4, To: 6}, "e1g1"},
	{start(4, 0), api.Move{From: 4, To: 7, Castle: true}, ""},
	{start(4, 0), api.Move{From: 52, To: 60, Promote: 6}, "e7e8k"},
	{start(7, 0), api.Move{From: 4, To: 7, Castle: true}, ""},
	{start(7, 0), api.Move{From: 4, To: 6}, "e1g1"},
	{start(7, 1), api.Move{From: 60, To: 56, Castle: true}, "e8c8"},
	{start(8, 0), api.Move{From: 0, To: 63}, "a1h8"},
}

func TestKnown(t *testing.T) {
	for _, c := range known {
		if got := moves.Text(c.p, c.m); got != c.want {
			t.Errorf("%d %d: Text of %+v: %q, not %q", c.p.Variant, c.p.Turn, c.m, got, c.want)
		}
		checkText(t, plainOf(t, c.p), c.m)
		if c.want == "" {
			continue
		}
		if m, e := moves.Parse(c.p, c.want); e != api.OK || m != c.m {
			t.Errorf("%d %d: Parse of %q: %d %+v, not %+v", c.p.Variant, c.p.Turn, c.want, e, m, c.m)
		}
	}
}

// TestDrops: each number of a kind on each square and beside the board, and what makes a drop none: another To, a Promote, a Castle.
func TestDrops(t *testing.T) {
	each(func(v, turn uint8) {
		o := plainOf(t, start(v, turn))
		for s := math.MinInt8; s <= math.MaxInt8; s++ {
			for k := range 256 {
				m := api.Move{From: int8(s), To: int8(s), Drop: uint8(k)}
				if got := checkText(t, o, m); got != (s >= 0 && s < 64 && k >= 1 && k <= 5) {
					t.Errorf("%+v: %t", m, got)
				}
			}
			for k := uint8(1); k < 7; k++ {
				m := api.Move{From: int8(s), To: int8(s), Drop: k}
				for _, off := range []api.Move{
					{From: m.From, To: m.To + 1, Drop: k}, {From: m.From - 1, To: m.To, Drop: k}, {From: m.From, To: 0, Drop: k, Promote: k}, {From: m.From, To: -1, Drop: k},
					{From: m.From, To: m.To, Drop: k, Promote: k}, {From: m.From, To: m.To, Drop: k, Promote: 1}, {From: m.From, To: m.To, Drop: k, Castle: true}, {From: m.From, To: m.To, Drop: k, Promote: 5, Castle: true},
				} {
					checkNone(t, o, off)
				}
			}
		}
	})
}

// beside are numbers at both ends of the board, and beside it.
func beside() []int8 {
	l := []int8{math.MinInt8, math.MinInt8 + 1, -64, math.MaxInt8 - 1, math.MaxInt8}
	for s := int8(-9); s < 73; s++ {
		l = append(l, s)
	}
	return l
}

// TestPlain: plain moves between each two numbers of squares, and beside the board, with each Promote.
func TestPlain(t *testing.T) {
	t.Parallel()
	each(func(v, turn uint8) {
		for _, p := range []api.Position{start(v, turn), bare(v, turn), castler(v, turn)} {
			o := plainOf(t, p)
			for _, from := range beside() {
				for _, to := range beside() {
					for k := range uint8(9) {
						checkText(t, o, api.Move{From: from, To: to, Promote: k})
					}
				}
			}
		}
	})
}

// TestPromote: each number of a kind.
func TestPromote(t *testing.T) {
	each(func(v, turn uint8) {
		o := plainOf(t, start(v, turn))
		for k := range 256 {
			for _, m := range []api.Move{{From: 52, To: 60}, {From: 12, To: 28}, {From: 8, To: 1}, {From: 4, To: 6}, {From: 60, To: 63}, {From: 9, To: 9}} {
				m.Promote = uint8(k)
				checkText(t, o, m)
				if k == 1 || k > 6 {
					checkNone(t, o, m)
				}
			}
		}
	})
}

// TestCastlings: both colors, each variant, the king on each file of its home, and each file of a rook, those that there aren't, too, on each side.
func TestCastlings(t *testing.T) {
	t.Parallel()
	each(func(v, turn uint8) {
		told := 0
		for king := range 8 {
			for f := -3; f < 12; f++ {
				for d := range 2 {
					p := castler(v, turn)
					p.Board[home(p, 4)] = 0
					p.Board[home(p, king)] = 8*turn + 6
					p.Rooks[turn][d] = int8(f)
					if f >= 0 && f < 8 && f != king {
						p.Board[home(p, f)] = 8*turn + 4
					}
					told += checkHomes(t, p)
				}
			}
		}
		if told == 0 {
			t.Errorf("%d %d: no castling", v, turn)
		}
	})
}

// checkHomes: castlings, and plain moves, between each two squares of both homes; it tells how many castlings there are.
func checkHomes(t *testing.T, p api.Position) int {
	t.Helper()
	o := plainOf(t, p)
	for from := range int8(64) {
		for to := range int8(64) {
			if from%56 >= 8 || to%56 >= 8 {
				continue
			}
			for _, m := range []api.Move{{}, {Castle: true}, {Promote: 5}, {Castle: true, Promote: 5}} {
				m.From, m.To = from, to
				checkText(t, o, m)
			}
		}
	}
	return len(o.castlings)
}

// TestRookNumbers: a rook's file that there isn't leads to no square, though a reckoning with it might.
func TestRookNumbers(t *testing.T) {
	t.Parallel()
	each(func(v, turn uint8) {
		if v == api.Chess960 {
			return
		}
		for f := math.MinInt8; f <= math.MaxInt8; f++ {
			p := castler(v, turn)
			p.Rooks = [2][2]int8{{int8(f), int8(f)}, {int8(f), int8(f)}}
			o := plainOf(t, p)
			want := 0
			if f >= 0 && f < 8 && f != 4 {
				want = 1
			}
			if len(o.castlings) != want {
				t.Errorf("%d castlings of %+v", len(o.castlings), p.Rooks)
			}
			for from := math.MinInt8; from <= math.MaxInt8; from++ {
				checkText(t, o, api.Move{From: int8(from), To: int8(f), Castle: true})
				checkText(t, o, api.Move{From: home(p, 4), To: int8(from), Castle: true})
				checkText(t, o, api.Move{From: home(p, 4), To: int8(from)})
			}
		}
	})
}

// TestChess960: a king on each square that takes a rook on each square, of both colors, and what stands there instead.
func TestChess960(t *testing.T) {
	for turn := range uint8(2) {
		for king := range int8(64) {
			for rook := range int8(64) {
				for _, men := range [][2]uint8{{8*turn + 6, 8*turn + 4}, {8*turn + 6, 8*(1-turn) + 4}, {8*(1-turn) + 6, 8*turn + 4}, {8*turn + 6, 8*turn + 5}, {8*turn + 5, 8*turn + 4}, {8*turn + 6, 0}, {0, 8*turn + 4}} {
					p := bare(api.Chess960, turn)
					p.Board[king], p.Board[rook] = men[0], men[1]
					m := api.Move{From: king, To: rook, Castle: true}
					castles := king != rook && men == [2]uint8{8*turn + 6, 8*turn + 4}
					want := ""
					if castles {
						want = plainSquare(king) + plainSquare(rook)
					}
					if got := moves.Text(p, m); got != want {
						t.Errorf("Text of %+v: %q, not %q, with %v", m, got, want, men)
					}
					m.Castle = false
					if got := moves.Text(p, m); (got == "") != (castles || king == rook) {
						t.Errorf("Text of %+v: %q, with %v", m, got, men)
					}
				}
			}
		}
	}
}

// TestRookStands: in Chess960 the rook that stands there counts, not the right; in other variants the right, not what stands there.
func TestRookStands(t *testing.T) {
	each(func(v, turn uint8) {
		p := castler(v, turn)
		m := api.Move{From: home(p, 4), To: home(p, 7), Castle: true}
		if moves.Text(p, m) == "" {
			t.Errorf("%d: no castling", v)
		}
		q := p
		q.Board[m.To] = 0
		if got := moves.Text(q, m); (got != "") != (v != api.Chess960) {
			t.Errorf("%d: %q, without a rook", v, got)
		}
		q = p
		q.Rooks[turn][0] = -1
		if got := moves.Text(q, m); (got != "") != (v == api.Chess960) {
			t.Errorf("%d: %q, without a right", v, got)
		}
		q = p
		q.Rooks[turn] = [2]int8{0, 7}
		if got := moves.Text(q, m); (got != "") != (v == api.Chess960) {
			t.Errorf("%d: %q, with the rights exchanged", v, got)
		}
		q = p
		q.Rooks = [2][2]int8{p.Rooks[1], p.Rooks[0]}
		if got := moves.Text(q, m); (got != "") != (v == api.Chess960) {
			t.Errorf("%d: %q, with the other color's rights", v, got)
		}
	})
}

// TestNone: moves that have no text for one reason each; without it they have one.
func TestNone(t *testing.T) {
	each(func(v, turn uint8) {
		p := castler(v, turn)
		o := plainOf(t, p)
		king, rook := home(p, 4), home(p, 7)
		goal := home(p, 6)
		if v == api.Chess960 {
			goal = rook
		}
		for i, m := range []api.Move{{From: king, To: rook, Castle: true}, {From: king, To: 27}, {From: 51, To: 59, Promote: 4}, {From: 30, To: 30, Drop: 3}} {
			if !checkText(t, o, m) {
				t.Errorf("%d: %+v has no text", i, m)
			}
		}
		for _, m := range []api.Move{
			{From: king, To: rook, Castle: true, Promote: 5}, {From: king, To: rook, Castle: true, Drop: 5}, {From: king, To: king, Castle: true}, {From: rook, To: king, Castle: true}, {From: rook, To: home(p, 0), Castle: true},
			{From: king, To: home(p, 6), Castle: true}, {From: king, To: home(p, 2), Castle: true}, {From: king, To: -1, Castle: true}, {From: king, To: 64, Castle: true}, {From: -1, To: rook, Castle: true}, {From: 64, To: rook, Castle: true},
			{From: king ^ 56, To: rook ^ 56, Castle: true}, {From: king, To: rook ^ 56, Castle: true},
			{From: king, To: goal}, {From: king, To: king}, {From: king, To: -1}, {From: king, To: 64}, {From: -1, To: king}, {From: 64, To: king}, {From: king, To: 27, Promote: 1}, {From: king, To: 27, Promote: 7}, {From: king, To: 27, Drop: 2},
			{From: 30, To: 30, Drop: 6}, {From: 30, To: 30, Drop: 7}, {From: 30, To: 31, Drop: 3}, {From: -1, To: -1, Drop: 3}, {From: 64, To: 64, Drop: 3}, {From: 30, To: 30, Drop: 3, Promote: 3}, {From: 30, To: 30, Drop: 3, Castle: true},
			{}, {Castle: true}, {Promote: 5}, {From: -128, To: 127}, {From: 127, To: -128},
		} {
			checkNone(t, o, m)
		}
		for s := range p.Board {
			q := p
			q.Board[s] = 0
			if got := moves.Text(q, api.Move{From: king, To: rook, Castle: true}); (got == "") != (s == int(king) || v == api.Chess960 && s == int(rook)) {
				t.Errorf("%d: %q, with nothing on %d", v, got, s)
			}
		}
		for n := range 256 {
			q := p
			q.Board[king] = uint8(n)
			if got := moves.Text(q, api.Move{From: king, To: rook, Castle: true}); (got != "") != (n == int(8*turn+6)) {
				t.Errorf("%d: %q, with %d in the king's place", v, got, n)
			}
		}
	})
}

// TestWhichPosition: each number of a variant and of a Turn; of those that there aren't no move has a text.
func TestWhichPosition(t *testing.T) {
	for v := range 256 {
		for turn := range 256 {
			p := castler(api.Standard, 0)
			p.Variant, p.Turn = uint8(v), uint8(turn)
			for _, m := range []api.Move{{From: 12, To: 28}, {From: 52, To: 60, Promote: 5}, {From: 4, To: 7, Castle: true}, {From: 4, To: 6}, {From: 20, To: 20, Drop: 2}} {
				got := moves.Text(p, m)
				if v > 8 || turn > 1 {
					if got != "" {
						t.Errorf("%d %d: %+v: %q", v, turn, m, got)
					}
				} else {
					checkText(t, plainOf(t, p), m)
				}
			}
		}
	}
}

// TestAnyMoves: any moves, in positions with kings and rooks everywhere, and in any positions.
func TestAnyMoves(t *testing.T) {
	d := dice(111)
	for v := range api.Variants {
		for range 40 {
			checkMoves(t, &d, d.filled(v))
		}
	}
	for range 200 {
		checkMoves(t, &d, d.wild())
	}
}

func checkMoves(t *testing.T, d *dice, p api.Position) {
	t.Helper()
	o := plainOf(t, p)
	for range 2000 {
		checkText(t, o, d.move())
	}
	for _, m := range o.castlings {
		checkText(t, o, m)
	}
}
