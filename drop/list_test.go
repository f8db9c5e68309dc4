package drop_test

import (
	"slices"
	"strconv"
	"testing"

	"kibitzer/api"
	"kibitzer/drop"
	"kibitzer/rules"
)

// P15.1

func TestExamples(t *testing.T) {
	p, _ := rules.Start(api.Crazyhouse)
	p = drop.Add(drop.Add(p, api.White, api.Knight), api.White, api.Pawn)
	var want []api.Move
	for _, kind := range []uint8{api.Pawn, api.Knight} {
		for s := at("a3"); s <= at("h6"); s++ {
			want = append(want, dropped(kind, s))
		}
	}
	if got := drop.List(p); len(want) != 64 || !slices.Equal(got, want) {
		t.Errorf("List: %v, not %v", got, want)
	}
	if a, b := drop.Held(p, api.White), drop.Men(p); a != 2 || b != 34 {
		t.Errorf("Held, Men: %d, %d", a, b)
	}
	if got, ok := drop.Take(p, api.White, api.Queen); ok || got != p {
		t.Errorf("Take of a queen: %v, %+v", ok, got)
	}
	if n := drop.Held(drop.Add(p, api.White, api.Queen), api.White); n != 3 {
		t.Errorf("Held behind Add: %d", n)
	}
}

// goals is on how many squares of an empty board, of a board without its ranks 2 to 5, the kind may be dropped.
func goals(kind uint8) (onEmpty, onOuter int) {
	if kind == api.Pawn {
		return 48, 16
	}
	return 64, 32
}

func TestEachKindAlone(t *testing.T) {
	for _, color := range []uint8{0, 1} {
		for _, kind := range held {
			onEmpty, onOuter := goals(kind)
			for _, n := range []uint8{1, 2, 254, 255} {
				what := strconv.Itoa(int(n)) + " of the kind " + strconv.Itoa(int(kind))
				p := holding(bare(api.Crazyhouse, color), color, n, kind)
				check(t, what, p, onEmpty)
				check(t, what+", a full board", covered(p, men...), 0)
				check(t, what+", numbers that are no pieces", covered(p, strangers...), onEmpty)
				q := p
				for s := 16; s < 48; s++ {
					q.Board[s] = men[s%12]
				}
				check(t, what+", the middle is full", q, onOuter)
				first, _ := rules.Start(api.Crazyhouse)
				first.Turn, first.Pockets = color, p.Pockets
				check(t, what+", the first position", first, 32)
			}
		}
	}
}

// Every choice of kinds, of both colors; the other color's pocket has what the own one hasn't.
func TestEachChoiceOfKinds(t *testing.T) {
	for _, color := range []uint8{0, 1} {
		for chosen := range 32 {
			p, want := bare(api.Crazyhouse, color), 0
			for i, kind := range held {
				if chosen>>i&1 == 0 {
					p.Pockets[1-color][kind] = counts[1+chosen%7]
					continue
				}
				p.Pockets[color][kind] = counts[1+(chosen+i)%7]
				onEmpty, _ := goals(kind)
				want += onEmpty
			}
			check(t, "kinds chosen", p, want)
		}
	}
}

// Rising by kind first, then by square: each move is behind the one ahead of it.
func TestOrder(t *testing.T) {
	for _, p := range mixed(api.Crazyhouse) {
		l := drop.List(p)
		for i := 1; i < len(l); i++ {
			a, b := l[i-1], l[i]
			if a.Drop > b.Drop || a.Drop == b.Drop && a.From >= b.From {
				t.Errorf("%v is ahead of %v: %+v", a, b, p)
			}
		}
		for _, m := range l {
			if m != dropped(m.Drop, int(m.To)) || m.Drop < api.Pawn || m.Drop > api.Queen {
				t.Errorf("no drop: %+v", m)
			}
		}
	}
}

func TestEmptyPocket(t *testing.T) {
	for _, color := range []uint8{0, 1} {
		p := bare(api.Crazyhouse, color)
		check(t, "both pockets are empty", p, 0)
		check(t, "the other one is full", holding(p, 1-color, 255, held...), 0)
		for _, n := range counts {
			check(t, "what is no kind", holding(p, color, n, 0), 0)
			check(t, "what is no kind, beside knights", holding(p, color, n, 0, api.Knight), min(64*int(n), 64))
		}
	}
}

func TestOneEmptySquare(t *testing.T) {
	for _, color := range []uint8{0, 1} {
		full := holding(covered(bare(api.Crazyhouse, color), men...), color, 1, held...)
		check(t, "a full board", full, 0)
		for s := range 64 {
			want := 5
			if s < 8 || s > 55 {
				want = 4
			}
			for _, number := range append([]uint8{0}, strangers...) {
				p := full
				p.Board[s] = number
				check(t, "one empty square, "+strconv.Itoa(s), p, want)
			}
		}
	}
}

// Each number on each square of an empty board: pieces alone are in the way.
func TestOneNumberOnEachSquare(t *testing.T) {
	for _, color := range []uint8{0, 1} {
		p := holding(bare(api.Crazyhouse, color), color, 1, held...)
		for s := range 64 {
			for number := range 256 {
				q, want := p, 64*4+48
				q.Board[s] = uint8(number)
				if slices.Contains(men, uint8(number)) && s > 7 && s < 56 {
					want -= 5
				} else if slices.Contains(men, uint8(number)) {
					want -= 4
				}
				check(t, strconv.Itoa(number)+" on "+strconv.Itoa(s), q, want)
			}
		}
	}
}

// No pawn comes to the ranks 0 and 7, whosever it is; to all others each one does.
func TestPawnsOnOuterRanks(t *testing.T) {
	for _, color := range []uint8{0, 1} {
		p := holding(bare(api.Crazyhouse, color), color, 1, api.Pawn)
		l := drop.List(p)
		for s := range 64 {
			if got, want := slices.Contains(l, dropped(api.Pawn, s)), s >= at("a2") && s <= at("h7"); got != want {
				t.Errorf("color %d, a pawn on %d: %v", color, s, got)
			}
		}
		for s := 8; s < 56; s++ {
			p.Board[s] = api.Pawn
		}
		check(t, "ranks 0 and 7 alone are empty", p, 0)
		check(t, "knights, too", holding(p, color, 1, api.Knight), 16)
	}
}

func TestVariantsWithoutPockets(t *testing.T) {
	for v := range 256 {
		for turn := range uint8(2) {
			p := holding(bare(uint8(v), turn), turn, 255, held...)
			want := 0
			if v == int(api.Crazyhouse) {
				want = 64*4 + 48
			}
			check(t, "variant "+strconv.Itoa(v), p, want)
			check(t, "variant "+strconv.Itoa(v)+", an empty pocket", bare(uint8(v), turn), 0)
		}
	}
	for v := range api.Variants {
		first, _ := rules.Start(v)
		check(t, rules.Name(v), first, 0)
	}
}

func TestTurnsThatThereAreNot(t *testing.T) {
	full := holding(holding(bare(api.Crazyhouse, 0), 0, 255, held...), 1, 255, held...)
	for turn := 2; turn < 256; turn++ {
		for v := range 10 {
			p := full
			p.Variant, p.Turn = uint8(v), uint8(turn)
			check(t, "turn "+strconv.Itoa(turn), p, 0)
		}
	}
}

// In check, without kings or with several, drops are told all the same.
func TestKingsDoNotCount(t *testing.T) {
	p := holding(bare(api.Crazyhouse, 0), 0, 1, api.Rook)
	p.Board[at("e8")] = 12
	check(t, "no king", p, 63)
	p.Board[at("e1")] = 6
	check(t, "in check", p, 62)
	p.Board[at("d2")] = 10
	p.Board[at("e2")] = 6
	p.Board[at("e3")] = 14
	check(t, "kings about", p, 59)
}

// What a position holds beside its Board, Turn, Variant, and the own pocket's kinds doesn't count.
func TestFieldsThatDoNotCount(t *testing.T) {
	d := dice(151)
	for _, p := range mixed(api.Crazyhouse)[:500] {
		q := d.filled(api.Crazyhouse, p.Turn, 0, 0)
		q.Board = p.Board
		for _, kind := range held {
			q.Pockets[p.Turn][kind] = p.Pockets[p.Turn][kind]
		}
		if got, want := drop.List(q), drop.List(p); !slices.Equal(got, want) {
			t.Errorf("%v, not %v: %+v", got, want, q)
		}
	}
}

func TestPositionsOfAllSorts(t *testing.T) {
	told := 0
	for v := range api.Variants + 1 {
		for i, p := range mixed(v) {
			told += checkPlainly(t, strconv.Itoa(i), p)
		}
	}
	if told < 50000 {
		t.Errorf("%d drops are too few to tell much", told)
	}
}

// A list belongs to who asked for it: changed, and with its spare room filled, it changes no other one.
func TestListsAreNew(t *testing.T) {
	p := holding(bare(api.Crazyhouse, 0), 0, 1, held...)
	one, other := drop.List(p), drop.List(p)
	for i := range one[:cap(one)] {
		one[:cap(one)][i] = api.Move{From: 63, To: 1, Promote: 6, Castle: true}
	}
	if !slices.Equal(other, plainList(p)) {
		t.Errorf("told before: %v", other)
	}
	check(t, "once more", p, 64*4+48)
}

// P15.4

func TestKindsTimesSquares(t *testing.T) {
	for _, p := range mixed(api.Crazyhouse) {
		kinds, empty, inner := 0, 0, 0
		for _, n := range p.Pockets[p.Turn][api.Knight:] {
			kinds += min(int(n), 1)
		}
		for s, number := range p.Board {
			if slices.Contains(men, number) {
				continue
			}
			empty++
			if s/8 >= 1 && s/8 <= 6 {
				inner++
			}
		}
		want := kinds*empty + min(int(p.Pockets[p.Turn][api.Pawn]), 1)*inner
		if got := len(drop.List(p)); got != want {
			t.Errorf("%d drops, not %d: %+v", got, want, p)
		}
	}
}
