package castle_test

import (
	"slices"
	"strconv"
	"testing"

	"kibitzer/api"
	"kibitzer/castle"
	"kibitzer/rules"
)

// P14.1: variants, sides, what stands in the way

func TestExamples(t *testing.T) {
	for _, x := range []struct{ besides, want string }{
		{"", "e1a1 e1h1"},
		{"rf5", "e1a1"},
		{"rb5", "e1a1 e1h1"},
		{"re5", ""},
		{"Nb1", "e1h1"},
		{"nb1", "e1h1"},
	} {
		check(t, "besides "+x.besides, placed(api.Standard, "Ke1 Ra1 Rh1 ke8 "+x.besides, "ha"), x.want)
	}
}

// The side 1 is told first, whoever is to move.
func TestSidesOfEachVariant(t *testing.T) {
	for _, x := range []struct{ rights, want string }{
		{"ha", "e1a1 e1h1"},
		{"h.", "e1h1"},
		{".a", "e1a1"},
		{"..", ""},
	} {
		p := placed(api.Standard, "Ke1 Ra1 Rh1 ke8 ra8 rh8", x.rights)
		for _, v := range castling {
			p.Variant = v
			check(t, rules.Name(v)+" "+x.rights, p, x.want)
		}
		for _, v := range others {
			p.Variant = v
			check(t, rules.Name(v)+" "+x.rights, p, "")
		}
	}
}

func TestBlackInOrder(t *testing.T) {
	p := placed(api.Standard, "Ke1 Ra1 Rh1 ke8 ra8 rh8", "..")
	p.Turn, p.Rooks[1] = api.Black, [2]int8{7, 0}
	if got := castle.List(p); !slices.Equal(got, castlings("e8a8 e8h8")) {
		t.Error(got)
	}
}

func TestVariantsAndTurnsThatThereAreNot(t *testing.T) {
	p := placed(api.Standard, "Ke1 Ra1 Rh1 ke8 ra8 rh8", "ha")
	p.Rooks[1] = p.Rooks[0]
	for v := range 256 {
		for turn := range 256 {
			p.Variant, p.Turn = uint8(v), uint8(turn)
			if got := castle.List(p); (v > 8 || turn > 1) && len(got) > 0 {
				t.Errorf("variant %d, turn %d: %v", v, turn, got)
			}
		}
	}
}

// eachFile calls for each file of a king and each one of a rook, with White's position that has nothing else at home, and its castling's text.
func eachFile(do func(king, rook, side int, p api.Position, text string)) {
	const files = "abcdefgh"
	for king := range 8 {
		for rook := range 8 {
			k, r := files[king:king+1], files[rook:rook+1]
			p := "K" + k + "1 R" + r + "1 ka8"
			switch {
			case rook > king:
				do(king, rook, 0, placed(api.Chess960, p, r+"."), k+"1"+r+"1")
			case rook < king:
				do(king, rook, 1, placed(api.Chess960, p, "."+r), k+"1"+r+"1")
			}
		}
	}
}

func TestEachFile(t *testing.T) {
	kings, rooks, changed := 0, 0, 0
	eachFile(func(king, rook, side int, p api.Position, text string) {
		// Files are asked for alike in all variants that castle.
		for _, v := range castling {
			p.Variant = v
			check(t, text, p, text)
		}
		goals := [2]int{6 - 4*side, 5 - 2*side}
		switch {
		case king == goals[1] && rook == goals[0]:
			changed++
		case king == goals[0]:
			kings++
		case rook == goals[1]:
			rooks++
		}
	})
	if kings < 2 || rooks < 2 || changed != 2 {
		t.Errorf("%d kings, %d rooks are at their goals, %d change places", kings, rooks, changed)
	}
}

func TestBothRooksOfChess960(t *testing.T) {
	for _, x := range []struct{ texts, rights, want string }{
		{"Kb1 Ra1 Rh1", "ha", "b1a1 b1h1"},
		{"Kf1 Rb1 Rg1", "gb", "f1b1 f1g1"},
		{"Kg1 Ra1 Rh1", "ha", "g1a1 g1h1"},
		{"Kd1 Rc1 Re1", "ec", "d1c1 d1e1"},
		{"Kc1 Rb1 Rd1", "db", "c1d1"},
		// One rook stands where the other one goes, or the king.
		{"Kg1 Rf1 Rh1", "hf", "g1f1"},
		{"Kb1 Ra1 Rc1", "ca", "b1c1"},
		{"Kb1 Ra1 Rd1", "da", "b1d1"},
		{"Ka1 Rb1 Rh1", "h.", ""},
		{"Ka1 Rb1 Rh1", "b.", "a1b1"},
		{"Kh1 Ra1 Rg1", ".a", ""},
		{"Kh1 Ra1 Rg1", ".g", "h1g1"},
		{"Ke1 Ra1 Rb1", ".b", "e1b1"},
		{"Ke1 Ra1 Rb1", ".a", ""},
		{"Ke1 Rg1 Rh1", "g.", "e1g1"},
		{"Ke1 Rg1 Rh1", "h.", ""},
	} {
		check(t, x.texts, placed(api.Chess960, x.texts+" ka8", x.rights), x.want)
	}
}

// isBetween: whether king or rook go over that file, or to it.
func isBetween(f, king, rook, side int) bool {
	return within(f, king, 6-4*side) || within(f, rook, 5-2*side)
}

// Something of either color that attacks nothing at home, and what is no piece and counts as nothing, on each other square of it.
func TestSomethingElseAtHome(t *testing.T) {
	eachFile(func(king, rook, side int, p api.Position, text string) {
		for s := range 8 {
			if s == king || s == rook {
				continue
			}
			want := text
			if isBetween(s, king, rook, side) {
				want = ""
			}
			what, q := text+", something else on "+strconv.Itoa(s), p
			for _, number := range []uint8{1, 2, 3, 4, 5, 9, 10, 11} {
				q.Board[s] = number
				check(t, what, q, want)
			}
			for _, number := range strangers {
				q.Board[s] = number
				check(t, what+", no piece", q, text)
			}
			// These attack along the home.
			for _, number := range []uint8{12, 13, 14} {
				q.Board[s] = number
				checkPlainly(t, what, q)
			}
		}
	})
}

func TestSomethingElseAheadOfHome(t *testing.T) {
	p := placed(api.Standard, "Ke1 Ra1 Rh1 ke8", "ha")
	for s := 8; s < 64; s++ {
		for number := api.Pawn; number < api.King && s != 60; number++ {
			q := p
			q.Board[s] = number
			check(t, "an own one on "+strconv.Itoa(s), q, "e1a1 e1h1")
		}
	}
}

func TestFirstPositions(t *testing.T) {
	for v := range api.Variants {
		p, _ := rules.Start(v)
		check(t, rules.Name(v), p, "")
		p.Turn = api.Black
		check(t, rules.Name(v), p, "")
	}
}

// In some first positions of chess960 nothing stands in the way.
func TestFirstPositionsOfChess960(t *testing.T) {
	told := 0
	for n := range 960 {
		p, _ := rules.Start960(n)
		told += checkPlainly(t, strconv.Itoa(n), p)
		for s := range 8 {
			if p.Board[s] != api.King && p.Board[s] != api.Rook {
				p.Board[s] = 0
			}
		}
		checkPlainly(t, strconv.Itoa(n)+", with king and rooks alone", p)
	}
	if told == 0 {
		t.Error("nobody castles at once")
	}
}

func TestPositionsOfAllSorts(t *testing.T) {
	told := 0
	for i, p := range mixed() {
		told += checkPlainly(t, strconv.Itoa(i), p)
	}
	if told < 1000 {
		t.Errorf("%d castlings are too few to tell much", told)
	}
}

// What a position holds beside its Board, Turn, Variant, and its own color's Rooks doesn't count.
func TestFieldsThatDoNotCount(t *testing.T) {
	d := dice(141)
	for _, p := range mixed()[:500] {
		q := p
		q.Promoted, q.Passing, q.Half, q.Full = d.next(), int8(d.next()), int(d.next()), int(d.next())
		q.Rooks[1] = [2]int8{int8(d.next()), int8(d.next())}
		for c := range 2 {
			q.Checks[c] = uint8(d.next())
			for i := range q.Pockets[c] {
				q.Pockets[c][i] = uint8(d.next())
			}
		}
		if got, want := castle.List(q), castle.List(p); !slices.Equal(got, want) {
			t.Errorf("%v, not %v: %+v", got, want, q)
		}
	}
}

// A list belongs to who asked for it: changed, and with its spare room filled, it changes no other one.
func TestListsAreNew(t *testing.T) {
	p := placed(api.Standard, "Ke1 Ra1 Rh1 ke8", "ha")
	one := castle.List(p)
	for i := range one[:cap(one)] {
		one[:cap(one)][i] = api.Move{From: 63, To: 63, Drop: 6}
	}
	check(t, "once more", p, "e1a1 e1h1")
}

// P14.4

func TestRightsOneByOne(t *testing.T) {
	for _, p := range mixed() {
		all := castle.List(p)
		for side := range 2 {
			q := p
			q.Rooks[0][side] = -1
			want := slices.DeleteFunc(slices.Clone(all), func(m api.Move) bool { return castle.Side(p, m) == side })
			if got := castle.List(q); !slices.Equal(got, want) {
				t.Errorf("without the right to side %d: %v, not %v: %+v", side, got, want, p)
			}
		}
		p.Rooks[0] = [2]int8{-1, -1}
		if got := castle.List(p); len(got) > 0 {
			t.Errorf("without rights: %v: %+v", got, p)
		}
	}
}
