package pseudo_test

import (
	"slices"
	"strconv"
	"testing"

	"kibitzer/api"
	"kibitzer/pseudo"
	"kibitzer/rules"
)

// P13.1: first positions, and what there isn't.

func TestFirstPositions(t *testing.T) {
	for v := range api.Variants {
		white := "b1a3 b1c3 g1f3 g1h3 a2a3 a2a4 b2b3 b2b4 c2c3 c2c4 d2d3 d2d4 e2e3 e2e4 f2f3 f2f4 g2g3 g2g4 h2h3 h2h4"
		black := "a7a5 a7a6 b7b5 b7b6 c7c5 c7c6 d7d5 d7d6 e7e5 e7e6 f7f5 f7f6 g7g5 g7g6 h7h5 h7h6 b8a6 b8c6 g8f6 g8h6"
		switch v {
		case api.Horde:
			white = "a4a5 d4d5 e4e5 h4h5 b5b6 c5c6 f5f6 g5g6"
			black = "a7a5 a7a6 b7b6 c7c6 d7d5 d7d6 e7e5 e7e6 f7f6 g7g6 h7h5 h7h6 b8a6 b8c6 g8f6 g8h6"
		case api.Racing:
			white = "e1c2 e1d3 e1f3 e2c1 e2c3 e2g3 e2d4 e2f4 f2e3 f2g3 f2d4 f2h4 f2c5 f2b6 f2a7 g2g3 g2g4 g2g5 g2g6 g2g7 g2g8 h2g3 h2h3"
			black = "d1f2 d1c3 d1e3 a2a3 a2b3 b2b3 b2b4 b2b5 b2b6 b2b7 b2b8 c2b3 c2d3 c2a4 c2e4 c2f5 c2g6 c2h7 d2f1 d2b3 d2f3 d2c4 d2e4"
		}
		p, _ := rules.Start(v)
		check(t, rules.Name(v), p, white)
		p.Turn = api.Black
		check(t, rules.Name(v), p, black)
	}
}

func TestFirstPositionsOfChess960(t *testing.T) {
	for n := range 960 {
		p, _ := rules.Start960(n)
		checkPlainly(t, strconv.Itoa(n), p)
		p.Turn = api.Black
		checkPlainly(t, strconv.Itoa(n), p)
	}
}

func TestVariantsThatThereAreNot(t *testing.T) {
	for _, p := range mixed()[:60] {
		for v := int(api.Variants); v < 256; v++ {
			q := p
			q.Variant = uint8(v)
			checkNothing(t, "variant "+strconv.Itoa(v), q, plainList(p))
		}
	}
}

func TestTurnsThatThereAreNot(t *testing.T) {
	for _, p := range mixed()[:60] {
		for turn := 2; turn < 256; turn++ {
			q := p
			q.Turn = uint8(turn)
			checkNothing(t, "turn "+strconv.Itoa(turn), q, plainList(p))
		}
	}
	// What stands on no square's number, and what is no piece, is nobody's, whoever is asked for.
	var p api.Position
	for n := range 256 {
		for s := range p.Board {
			p.Board[s] = uint8(n)
		}
		for turn := 2; turn < 256; turn++ {
			p.Turn = uint8(turn)
			checkNothing(t, "a board of "+strconv.Itoa(n), p, nil)
		}
	}
}

// checkNothing: no moves are told of the position, and those that are told of one like it take nothing.
func checkNothing(t *testing.T, what string, p api.Position, others []api.Move) {
	t.Helper()
	if got := pseudo.List(p); len(got) != 0 {
		t.Errorf("%s: %q", what, told(got))
	}
	for _, m := range others {
		checkTaken(t, what, p, m, -1)
	}
}

func TestNumbersThatAreNoPieces(t *testing.T) {
	for n := range 256 {
		if slices.Contains(men, uint8(n)) {
			continue
		}
		for _, v := range variants {
			// On the way, on squares to come to, on those that a pawn goes by, and on such as it takes on.
			p := placed(v, 0, "Pe2 Ra1 Nh1 Pb7 kh8 Pd1")
			for _, s := range []string{"e3", "d3", "f3", "a2", "a4", "b1", "c1", "g3", "f2", "b8", "a8", "c8", "d2"} {
				p.Board[at(s)] = uint8(n)
			}
			bare := placed(v, 0, "Pe2 Ra1 Nh1 Pb7 kh8 Pd1")
			if got, want := told(pseudo.List(p)), told(plainList(bare)); got != want {
				t.Errorf("the number %d beside pieces of the variant %d: %q, not %q", n, v, got, want)
			}
			checkPlainly(t, "the number "+strconv.Itoa(n), p)
		}
	}
	for n := range 256 {
		var p api.Position
		for _, s := range []int{0, 7, 11, 28, 35, 50, 56, 63} {
			p.Board[s] = uint8(n)
		}
		for _, v := range variants {
			for _, turn := range colors {
				p.Variant, p.Turn = v, turn
				checkPlainly(t, "the number "+strconv.Itoa(n)+" itself", p)
			}
		}
	}
}

// What a position holds beside its board, Turn, Variant and Passing doesn't count.
func TestFieldsThatDoNotCount(t *testing.T) {
	d := dice(131)
	for _, p := range mixed()[:200] {
		q := p
		q.Promoted, q.Half, q.Full = d.next(), int(d.next()), int(d.next())
		q.Checks = [2]uint8{uint8(d.next()), uint8(d.next())}
		for c := range 2 {
			q.Rooks[c] = [2]int8{int8(d.next()), int8(d.next())}
			for i := range q.Pockets[c] {
				q.Pockets[c][i] = uint8(d.next())
			}
		}
		if got, want := pseudo.List(q), pseudo.List(p); !slices.Equal(got, want) {
			t.Errorf("%q, not %q: %+v", told(got), told(want), q)
		}
	}
}

func TestPositionsOfAllSorts(t *testing.T) {
	for i, p := range mixed() {
		checkPlainly(t, strconv.Itoa(i), p)
	}
}

// A list belongs to who asked for it: changed, and with its spare room filled, it changes no other one.
func TestListsAreNew(t *testing.T) {
	p, _ := rules.Start(api.Standard)
	one := pseudo.List(p)
	want := told(one)
	for i := range one[:cap(one)] {
		one[:cap(one)][i] = api.Move{From: 63, To: 63, Drop: 6}
	}
	if got := told(pseudo.List(p)); got != want {
		t.Errorf("%q, not %q", got, want)
	}
}

// P13.3

func TestToAndFro(t *testing.T) {
	for _, p := range mixed() {
		for _, m := range pseudo.List(p) {
			if p.Board[m.From]&7 == api.Pawn || !empty(p, int(m.To)) {
				continue
			}
			// The piece goes there; all else but what may not be gone by is taken off.
			gone, bare := p, p
			gone.Board[m.From], gone.Board[m.To] = 0, p.Board[m.From]
			bare.Board = [64]uint8{}
			bare.Board[m.To] = p.Board[m.From]
			back := api.Move{From: m.To, To: m.From}
			for _, q := range []api.Position{gone, bare} {
				if !slices.Contains(pseudo.List(q), back) {
					t.Errorf("%s, but not %s: %+v", text(m), text(back), p)
				}
			}
		}
	}
}

// P13.4

func TestOneByOne(t *testing.T) {
	for _, p := range mixed()[:500] {
		all := pseudo.List(p)
		for s := range 64 {
			if p.Turn > 1 || !isOf(p, s, p.Turn) {
				continue
			}
			without := p
			without.Board[s] = 0
			rest := pseudo.List(without)
			for _, m := range all {
				if int(m.From) != s && !slices.Contains(rest, m) {
					t.Errorf("%s is gone with what stood on %d: %+v", text(m), s, p)
				}
			}
			checkInTheWay(t, p, s, all, rest)
		}
	}
}

// checkInTheWay: each move that is told only without what stands on s leads there, or by it.
func checkInTheWay(t *testing.T, p api.Position, s int, all, rest []api.Move) {
	t.Helper()
	for _, m := range rest {
		if slices.Contains(all, m) {
			continue
		}
		from, to := int(m.From), int(m.To)
		if to == s {
			continue
		}
		file, rank := to%8-from%8, to/8-from/8
		straight := file == 0 || rank == 0 || abs(file) == abs(rank)
		if by := 8*sign(rank) + sign(file); !straight || (s-from)%by != 0 || (s-from)/by < 1 || (to-s)/by < 1 {
			t.Errorf("%s is told only without what stood on %d: %+v", text(m), s, p)
		}
	}
}
