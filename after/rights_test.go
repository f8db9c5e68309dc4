package after_test

import (
	"testing"

	"kibitzer/after"
	"kibitzer/api"
)

// P16.2: rights to castle

func TestRights(t *testing.T) {
	const home = "Ke1 Ra1 Rh1 ke8 ra8 rh8 "
	const all = home + ">h1 <a1 >h8 <a8 "
	for _, x := range []struct{ before, move, behind string }{
		{all + "Nb1", "b1c3", all + "Nc3"},
		{all + "Pd2 Rd4", "d4d8", all + "Pd2 Rd8"},
		// The king, a rook of each side.
		{all, "e1e2", "Ke2 Ra1 Rh1 ke8 ra8 rh8 >h8 <a8"},
		{all, "e1d1", "Kd1 Ra1 Rh1 ke8 ra8 rh8 >h8 <a8"},
		{all, "h1g1", "Ke1 Ra1 Rg1 ke8 ra8 rh8 <a1 >h8 <a8"},
		{all, "h1h3", "Ke1 Ra1 Rh3 ke8 ra8 rh8 <a1 >h8 <a8"},
		{all, "a1b1", "Ke1 Rb1 Rh1 ke8 ra8 rh8 >h1 >h8 <a8"},
		{all, "a1a7", "Ke1 Ra7 Rh1 ke8 ra8 rh8 >h1 >h8 <a8"},
		{all, "e1*h1", "Kg1 Ra1 Rf1 ke8 ra8 rh8 >h8 <a8"},
		{all, "e1*a1", "Kc1 Rd1 Rh1 ke8 ra8 rh8 >h8 <a8"},
		// Another rook, of which no right tells.
		{all + "Rf4", "f4f1", all + "Rf1"},
		{home + ">h1 >h8", "a1a3", "Ke1 Ra3 Rh1 ke8 ra8 rh8 >h1 >h8"},
		// A take of the other color's king.
		{"Rh1 Ke1 >h1 ke8 rh8 Qe5 >h8", "e5e8", "Rh1 Ke1 >h1 Qe8 rh8"},
	} {
		behind(t, []uint8{0, 1, 5, 6, 7}, x.before, x.move, x.behind)
	}
}

func TestRightsBehindATakeOfARook(t *testing.T) {
	const all = "Ke1 Ra1 Rh1 ke8 ra8 rh8 >h1 <a1 >h8 <a8 "
	for _, x := range []struct{ move, behind, crazy string }{
		{"h1h8", "Ke1 Ra1 Rh8 ke8 ra8 <a1 <a8", " @R"},
		{"a1a8", "Ke1 Ra8 Rh1 ke8 rh8 >h1 >h8", " @R"},
	} {
		behind(t, []uint8{0, 1, 5, 6, 7}, all, x.move, x.behind)
		behind(t, crazyhouse, all, x.move, x.behind+x.crazy)
	}
	behind(t, quiet[:2], all+"Ng6", "g6h8", "Ke1 Ra1 Rh1 ke8 ra8 Nh8 >h1 <a1 <a8")
	behind(t, quiet[:2], all+"Pb7", "b7a8r", "Ke1 Ra1 Rh1 ke8 Ra8 rh8 >h1 <a1 >h8")
	behind(t, quiet[:2], all+"Bh3 nc8 Pg7", "g7h8q", "Ke1 Ra1 Rh1 Bh3 nc8 ke8 ra8 Qh8 >h1 <a1 <a8")
}

func TestRightsOfAtomic(t *testing.T) {
	const all = "Ke1 Ra1 Rh1 ke8 ra8 rh8 >h1 <a1 >h8 <a8 "
	for _, x := range []struct{ before, move, behind string }{
		// A rook beside what is taken goes, and so does a king; their rights go, too.
		{all + "ng7 Qd4", "d4g7", "Ke1 Ra1 Rh1 ke8 ra8 >h1 <a1 <a8"},
		{all + "bb7 Qb3", "b3b7", "Ke1 Ra1 Rh1 ke8 rh8 >h1 <a1 >h8"},
		{all + "pd7 Qd1", "d1d7", "Ke1 Ra1 Rh1 ra8 rh8 >h1 <a1"},
		{all + "pf7 Qf3", "f3f7", "Ke1 Ra1 Rh1 ra8 rh8 >h1 <a1"},
		{all, "h1h8", "Ke1 Ra1 ke8 ra8 <a1 <a8"},
		{all, "a1a8", "Ke1 Rh1 ke8 rh8 >h1 >h8"},
		{all + "pg2 Bf1", "f1g2", "Ke1 Ra1 ke8 ra8 rh8 <a1 >h8 <a8"},
		{all + "pf2 Nh3", "h3f2", "Ra1 Rh1 ke8 ra8 rh8 >h8 <a8"},
		{all + "pe7 Qe5", "e5e7", "Ke1 Ra1 Rh1 ra8 rh8 >h1 <a1"},
		{all + "pc7 Qc3", "c3c7", "Ke1 Ra1 Rh1 ke8 ra8 rh8 >h1 <a1 >h8 <a8"},
	} {
		behind(t, atomic, x.before, x.move, x.behind)
	}
}

// Rights that no king or rook stands for are gone behind whatever move; others stay, whichever they are.
func TestRightsThatNothingStandsFor(t *testing.T) {
	for _, x := range []struct{ before, behind string }{
		{"Ke1 Rh1 >h1 <a1", "Ke1 Rh1 >h1"},
		{"Ke1 >h1 <a1", "Ke1"},
		{"Ke2 Rh1 Ra1 >h1 <a1", "Ke2 Rh1 Ra1"},
		{"Rh1 Ra1 >h1 <a1", "Rh1 Ra1"},
		{"Ke1 Rh1 nf1 >f1 <a1 Ba1", "Ke1 Rh1 nf1 Ba1"},
		{"Ke1 rh1 ra1 >h1 <a1", "Ke1 rh1 ra1"},
		{"Ke1 Rh2 >h1", "Ke1 Rh2"},
		{"ke8 rh8 >h8 <a8", "ke8 rh8 >h8"},
		{"ke7 rh8 ra8 >h8 <a8", "ke7 rh8 ra8"},
		{"rh8 ra8 >h8 <a8", "rh8 ra8"},
		{"Ke8 rh8 ra8 >h8 <a8", "Ke8 rh8 ra8"},
		{"ke1 Rh1 Ra1 >h1 <a1", "ke1 Rh1 Ra1"},
		// A rook on the other side of its king, or two rights with one rook.
		{"Kc1 Rb1 >b1", "Kc1 Rb1 >b1"},
		{"Kc1 Rf1 <f1", "Kc1 Rf1 <f1"},
		{"Kc1 Rf1 >f1 <f1", "Kc1 Rf1 >f1 <f1"},
		{"Kc1 Rf1 Rb1 >f1 <b1 kg8 rh8 ra8 >h8 <a8", "Kc1 Rf1 Rb1 >f1 <b1 kg8 rh8 ra8 >h8 <a8"},
	} {
		behind(t, []uint8{0, 1, 2, 3, 4, 5, 6, 7, 8}, x.before+" Pc4", "c4c5", x.behind+" Pc5")
	}
}

// A right to a file that there isn't is none.
func TestRightsToNoFile(t *testing.T) {
	for file := -128; file < 128; file++ {
		for side := range 2 {
			for color := range uint8(2) {
				p := placed(api.Chess960, "Ke1 Pc4 ke8")
				for s := range p.Board {
					if p.Board[s] == 0 && s%8 != 2 {
						p.Board[s] = 8*color + api.Rook
					}
				}
				p.Rooks[color][side] = int8(file)
				want := p
				want.Board[at("c4")], want.Board[at("c5")] = 0, api.Pawn
				if file < 0 || file > 7 || file == 2 || file == 4 {
					want.Rooks[color][side] = -1
				}
				check(t, "rooks everywhere", p, "c4c5", want)
			}
		}
	}
}

// checkRights holds the rights behind the move against those wanted. It asks one color alone, as of two kings the first one is another one, where the board is turned about.
func checkRights(t *testing.T, p api.Position, text string, want [2][2]int8) {
	t.Helper()
	got, ok := after.Move(p, move(text))
	if !ok || got.Rooks != want {
		t.Errorf("%s: %v, %v: %+v", text, ok, got.Rooks, p)
	}
	checkPlainly(t, text, p, move(text))
}

func TestSecondKings(t *testing.T) {
	none := [2]int8{-1, -1}
	both := [2]int8{7, 0}
	white := placed(api.Standard, "Ke1 Kd4 Ra1 Rh1 ke8 ra8 rh8 >h1 <a1 >h8 <a8 Nb1")
	checkRights(t, white, "b1c3", [2][2]int8{both, both})
	checkRights(t, white, "d4d5", [2][2]int8{none, both})
	checkRights(t, white, "e1e2", [2][2]int8{none, both})
	// The second one alone is at home.
	behindFirst := placed(api.Standard, "Ke1 ke8 kd4 Ra1 Rh1 ra8 rh8 >h1 <a1 >h8 <a8 Nb1")
	checkRights(t, behindFirst, "b1c3", [2][2]int8{both, none})
	behindFirst.Turn = api.Black
	checkRights(t, behindFirst, "d4d5", [2][2]int8{both, none})
	checkRights(t, behindFirst, "h8g8", [2][2]int8{both, none})
	// Two at home: one that is taken leaves the other one there.
	two := placed(api.Standard, "Kc1 Ke1 Ra1 Rh1 ke8 rc8 rh8 >h1 <a1 >h8 <c8")
	two.Turn = api.Black
	checkRights(t, two, "c8c1", [2][2]int8{both, {7, -1}})
	two.Board[at("e1")], two.Board[at("e3")] = 0, api.King
	checkRights(t, two, "c8c1", [2][2]int8{none, {7, -1}})
}

// Where a piece is taken on a square of a right, the right is lost, though the mover's own rook stands there then.
func TestRightsToTheSquareOfATake(t *testing.T) {
	none := int8(-1)
	for _, v := range []uint8{0, 1, 2, 5, 6, 7} {
		for _, x := range []struct {
			texts, move string
			want        [2]int8
		}{
			{"Ke1 Rh5 nh1 >h1", "h5h1", [2]int8{none, none}},
			{"Ke1 Rh5 nh1 Ra1 >h1 <a1", "h5h1", [2]int8{none, 0}},
			{"Ke1 Ra5 qa1 Rh1 >h1 <a1", "a5a1", [2]int8{7, none}},
			{"Ke1 Ra5 Rh1 >h1 <a1", "a5a1", [2]int8{7, 0}},
			{"Ke1 Rh5 >h1", "h5h1", [2]int8{7, none}},
			{"Ke1 Rh5 Rh1 >h1", "h1g1", [2]int8{none, none}},
		} {
			p := placed(v, x.texts)
			checkRights(t, p, x.move, [2][2]int8{x.want, {none, none}})
			checkPlainly(t, x.texts, turned(p), turnedMove(move(x.move)))
		}
	}
	// A rook that is dropped stands there as one that has come.
	checkRights(t, placed(api.Crazyhouse, "Ke1 @R >h1"), "R@h1", [2][2]int8{{7, none}, {none, none}})
	checkRights(t, placed(api.Crazyhouse, "Ke1 @R >h1"), "R@g1", [2][2]int8{{none, none}, {none, none}})
	// What stands behind a passing square is taken there, whosever it is.
	checkRights(t, placed(api.Standard, "Ke1 Ra1 Rh1 Pb1 =a2 >h1 <a1"), "b1a2", [2][2]int8{{7, none}, {none, none}})
}
