package legal_test

import (
	"slices"
	"strings"
	"testing"

	"kibitzer/after"
	"kibitzer/api"
	"kibitzer/legal"
	"kibitzer/rules"
)

// P17.1

// checkWell holds Well of the move against what is reckoned plainly.
func checkWell(t *testing.T, what string, p api.Position, m api.Move) {
	t.Helper()
	if got, want := legal.Well(p, m), plainWell(p, m); got != want {
		t.Errorf("%s: %+v: %v, not %v: %+v", what, m, got, want, p)
	}
}

// wells holds that in these variants the moves of the one text leave all well, those of the other one don't; and all others against what is reckoned plainly. So with White to move, and with Black, the board turned about (where the same holds for Black: not in Horde, nor of several kings, of which another one is the first then).
func wells(t *testing.T, in []uint8, texts, well, not string) {
	t.Helper()
	for _, v := range in {
		p, what := placed(v, texts), rules.Name(v)+": "+texts
		named := append(strings.Fields(well), strings.Fields(not)...)
		for i, text := range named {
			m, want := move(text), i < len(strings.Fields(well))
			if plain := plainWell(p, m); plain != want {
				t.Fatalf("%s, %s: the test wants %v, plainly it is %v", what, text, want, plain)
			}
			if got := legal.Well(p, m); got != want {
				t.Errorf("%s, %s: %v, not %v", what, text, got, want)
			}
			checkWell(t, what+", turned, "+text, turned(p), turnedMove(m))
			if got := legal.Well(turned(p), turnedMove(m)); isAlike(p) && got != want {
				t.Errorf("%s, turned, %s: %v, not %v", what, text, got, want)
			}
		}
		for _, m := range after.All(p) {
			checkWell(t, what, p, m)
			checkWell(t, what+", turned", turned(p), turnedMove(m))
		}
	}
}

// isAlike: whether White and Black stand alike in the position and in the one that is turned about.
func isAlike(p api.Position) bool {
	return p.Variant != api.Horde && strings.Count(string(p.Board[:]), "\x06") < 2 && strings.Count(string(p.Board[:]), "\x0e") < 2
}

func TestMovesThatMayNotBeMade(t *testing.T) {
	wells(t, variants, "Ke1 Ra1 Pc2 kb8 pc7", "e1d1 a1a2 c2c3",
		"e1e3 e1e1 a1b2 a1e1 a1f1 c2c5 c2b3 c2d3 c2c3q c2c4n e2e3 h8h7 b8a8 c7c6 e1*a1 e1*h1 N@e5 Q@e5 P@e5 c7c8q")
	for _, v := range variants {
		p := placed(v, "Ke1 Ra1 ka8 @N")
		for _, m := range []api.Move{
			{}, {From: -1, To: 3}, {From: 4, To: 68}, {From: 64, To: 0}, {From: -128, To: 127},
			{From: 4, To: 5, Promote: 255}, {From: 4, To: 5, Drop: api.King}, {From: 4, To: 5, Castle: true},
			{From: 0, To: 8, Drop: 255}, {From: 9, To: 9, Drop: api.Knight, Promote: 1}, {From: 9, To: 10, Drop: api.Knight},
		} {
			if legal.Well(p, m) {
				t.Errorf("%s: %+v is well", rules.Name(v), m)
			}
		}
	}
}

func TestKingThatGoesIntoACheck(t *testing.T) {
	wells(t, kingly, "Ke1 rd8 ka8", "e1e2 e1f1 e1f2", "e1d1 e1d2")
	wells(t, []uint8{api.Racing}, "Ke1 rd8 ka8", "e1e2 e1f1 e1f2", "e1d1 e1d2")
	wells(t, []uint8{api.Antichess, api.Horde}, "Ke1 rd8 ka8", "e1e2 e1f1 e1f2 e1d1 e1d2", "")
	// Along the line of the check, away from it: the king doesn't shelter the square behind it.
	wells(t, append(kingly, api.Racing), "Kd4 rd8 ka8", "d4c3 d4e5", "d4d3 d4d5")
}

func TestKingThatStaysInCheck(t *testing.T) {
	wells(t, append(kingly, api.Racing), "Ke1 Ra3 Bh1 Nc2 re8 kg7", "a3e3 c2e3 h1e4 e1d1", "a3a2 a3a8 a3d3 c2d4 h1g2 c2a1")
	wells(t, kingly, "Ke1 Ra8 Bh3 re8 kh7", "a8e8 e1f1 h3e6", "a8a1 h3d7 h3c8 a8b8")
	wells(t, kingly, "Kh1 Pf2 Pg2 qh4 ka8", "h1g1", "f2f3 f2f4 g2g4 g2g3")
	// Two pieces give check.
	wells(t, kingly, "Ke1 Qa4 re8 nc2 ka7", "e1f1 e1d1 e1d2 e1f2", "a4e4 a4e8 a4c2 a4d1 e1e2")
	// A pawn, a knight, the other king beside a square.
	wells(t, kingly, "Ke4 pd5 Pc4 Bh1 kh8", "e4d4 e4f3", "c4c5 h1g2")
	wells(t, []uint8{0, 1, 2, 5, 6}, "Ke4 pd5 Pc4 Bh1 kh8", "c4d5 e4d5", "")
	wells(t, []uint8{0, 1, 2, 5, 6}, "Ke1 ke3", "e1d1 e1f1", "e1d2 e1e2 e1f2")
	wells(t, []uint8{api.Atomic}, "Ke1 ke3", "e1d1 e1f1 e1d2 e1e2 e1f2", "")
}

func TestPinned(t *testing.T) {
	wells(t, kingly, "Ke1 Re2 re8 ka8", "e2e3 e2e4 e2e5 e2e6 e2e7 e2e8 e1d1 e1d2 e1f1 e1f2", "e2a2 e2d2 e2f2 e2h2")
	wells(t, kingly, "Ke1 Bd2 bb4 kh7", "d2c3 d2b4 e1d1 e1e2", "d2c1 d2e3 d2g5 d2h6 d2a5")
	wells(t, kingly, "Ke1 Ne4 qe8 kh8", "e1d1", "e4c3 e4d2 e4f6 e4g5 e4c5")
	wells(t, kingly, "Ka4 Pe4 Nc4 rh4 kh8", "e4e5 c4d2", "")
	wells(t, kingly, "Ka4 Pe4 rh4 kh8 pd5 pf5", "", "e4e5 e4d5 e4f5")
	wells(t, kingly, "Ke1 Pe2 re8 pd3 pf3 kh8", "e2e3 e2e4", "e2d3 e2f3")
	wells(t, []uint8{api.Racing}, "Ke1 Re2 re8 ka8", "e2e3 e2e7", "e2a2 e2d2 e2e8")
	wells(t, []uint8{api.Antichess, api.Horde}, "Ke1 Re2 re8 ka8", "e2e3 e2e8 e2a2 e2h2 e1d2", "e1e2")
}

func TestTakesInPassing(t *testing.T) {
	// Two pawns leave the rank at once, one the file, one a slant.
	wells(t, kingly, "Ka5 Pe5 pd5 rh5 kh8 =d6", "e5e6 a5b6", "e5d6")
	wells(t, kingly, "Ke8 Pe5 pd5 re1 kh8 =d6", "e5e6 e8d7", "e5d6")
	wells(t, kingly, "Kh8 Pe5 pd5 ba1 ka8 =d6", "h8g8", "e5e6 e5d6")
	wells(t, kingly, "Ka2 Pe5 pd5 bg8 kh8 =d6", "a2a1", "e5d6")
	wells(t, kingly, "Ka5 Pe5 pd5 Nb5 rh5 kh8 =d6", "e5d6 e5e6 b5c7", "")
	// The pawn that has passed gives check: it is taken so, too.
	wells(t, kingly, "Kc4 Pe5 pd5 kh8 =d6", "e5d6 c4c3", "e5e6")
	wells(t, []uint8{0, 1, 2, 5, 6}, "Kc4 Pe5 pd5 kh8 =d6", "c4d5", "")
	// One that goes to the passing square blocks a check there.
	wells(t, []uint8{0, 1, 2, 5, 6}, "Ka6 Pe5 pd5 rh6 kh8 =d6", "e5d6 e5e6", "")
	wells(t, []uint8{api.Atomic}, "Ka6 Pe5 pd5 rh6 kh8 =d6", "e5e6", "e5d6")
	wells(t, []uint8{api.Antichess, api.Horde}, "Ka5 Pe5 pd5 rh5 kh8 =d6", "e5d6 e5e6", "e5f6")
}

func TestCastlings(t *testing.T) {
	in := []uint8{0, 1, 2, 3, 5, 6, 7}
	wells(t, in, "Ke1 Ra1 Rh1 <a1 >h1 ke8", "e1*a1 e1*h1", "")
	wells(t, in, "Ke1 Ra1 Rh1 <a1 >h1 ke8 rf8", "e1*a1", "e1*h1")
	wells(t, in, "Ke1 Ra1 Rh1 <a1 >h1 kh8 re8", "", "e1*a1 e1*h1")
	wells(t, in, "Ke1 Ra1 Rh1 <a1 ke8", "e1*a1", "e1*h1 h1*e1 e8*h8")
	wells(t, []uint8{api.Antichess, api.Racing}, "Ke1 Ra1 Rh1 <a1 >h1 kd8", "e1d2", "e1*a1 e1*h1")
	// The rook leaves the rank on which it has shielded the king.
	wells(t, []uint8{api.Chess960}, "Kb1 Ra1 <a1 ke8", "b1*a1", "")
	wells(t, []uint8{api.Chess960}, "Kc1 Rb1 ra1 <b1 ke8", "", "c1*b1")
}

func TestDrops(t *testing.T) {
	in := []uint8{api.Crazyhouse}
	wells(t, in, "Ke1 re5 ka8 @N @P", "N@e2 N@e3 N@e4 P@e2 P@e3 P@e4 e1d1", "N@e5 N@e6 N@a1 N@h8 P@d2 P@f4 P@e8 P@e1 Q@e2 e1e2")
	wells(t, in, "Ke1 ka8 @N @Q @P", "N@a1 N@h8 Q@a1 P@a2 P@h7", "N@e1 N@a8 P@a1 P@h8 R@a1 B@a1 K@a1")
	// Against two at once, a knight, a neighbour nothing can be dropped.
	wells(t, in, "Ke1 re5 bb4 ka8 @Q", "e1f1", "Q@e2 Q@c3 Q@d2")
	wells(t, in, "Ke1 nd3 ka8 @Q", "e1d1", "Q@d2 Q@a1")
	// A drop gives mate, and may.
	wells(t, in, "Kg6 kh8 @Q @P", "Q@h7 Q@g7 P@g7", "")
}

func TestAtomicsOwnKing(t *testing.T) {
	wells(t, []uint8{api.Atomic}, "Ke1 Qd1 nd2 pa4 kh8", "d1a4 d1c2", "d1d2 e1d2 e1f1")
	wells(t, []uint8{0, 1, 2, 5, 6}, "Ke1 Qd1 nd2 pa4 kh8", "d1a4 d1c2 d1d2 e1d2", "e1f1")
	wells(t, []uint8{api.Atomic}, "Ke1 Ra2 nd2 nf4 kh8", "a2c2", "a2d2 e1d2")
	// Both kings blow up: the own one counts.
	wells(t, []uint8{api.Atomic}, "Kc8 Qd1 pd7 ke8", "d1d6", "d1d7")
	// A pawn that takes in passing beside its king.
	wells(t, []uint8{api.Atomic}, "Kc7 Pe5 pd5 kh8 =d6", "e5e6", "e5d6")
	wells(t, []uint8{api.Atomic}, "Kd4 Pe5 pd5 kh8 =d6", "e5e6 e5d6", "d4d5")
}

func TestAtomicsOtherKing(t *testing.T) {
	in := []uint8{api.Atomic}
	wells(t, in, "Ke1 Qd1 re5 pd7 ke8", "d1d7 d1e2 e1f1", "d1d2 d1d6 e1e2")
	wells(t, in, "Ke1 Ra8 qe5 bb4 ke8", "a8e8 e1f1", "a8a1 a8d8")
	// In check from two sides, it takes what stands beside the other king.
	wells(t, in, "Ke1 Nc6 re2 bb4 pd8 kc7", "c6d8", "c6a5 c6d4")
	// The other king is gone already.
	wells(t, in, "Ke1 Ra1 re8 pa7", "a1b1 a1a7 e1e2 e1d1", "")
	// Elsewhere the king must leave the check first.
	wells(t, []uint8{0, 1, 2, 5, 6}, "Ke1 Qd1 re5 pd7 ke8", "d1e2 e1f1", "d1d7")
	wells(t, []uint8{0, 1, 2, 5, 6}, "Ke1 Ra1 re8 pa7", "e1d1", "a1b1 a1a7")
}

func TestAtomicsKingsSideBySide(t *testing.T) {
	in := []uint8{api.Atomic}
	wells(t, in, "Kd4 ke5 qd8 Ra1", "d4e4 d4d5 a1a2 a1h1", "d4d3")
	wells(t, in, "Kd4 kf5 qd8 Ra1", "d4e4 d4e5 d4c3", "d4d3 d4d5 a1a2 a1h1")
	// A piece that shields a king beside the other one isn't pinned.
	wells(t, in, "Kd4 ke5 rd8 Rd6", "d6a6 d6d8", "")
	wells(t, in, "Kd4 kf5 rd8 Rd6", "d6d8", "d6a6")
}

func TestRacingGivesNoCheck(t *testing.T) {
	in := []uint8{api.Racing}
	wells(t, in, "Ka1 Rb1 kh3", "b1b2 b1g1 b1b8", "b1b3 b1h1")
	wells(t, in, "Kb3 Ra3 kh3", "b3c3 a3a8 a3a1", "b3b4 b3a2 b3c2")
	wells(t, in, "Ka1 Nb1 Bc1 Qd1 kg3", "c1b2 b1c3 b1d2 d1d2 c1e3", "c1f4 d1d3 d1g4 d1g1 d1d6")
	wells(t, in, "Ka1 Bc1 kh4", "c1b2 c1e3", "c1g5")
	// Nor does a take; nor who gets out of a check by it.
	wells(t, in, "Ka1 Rb1 rb3 kh3", "b1b2 b1c1", "b1b3 b1h1 a1b2")
	wells(t, in, "Ka1 Rb3 ra8 kh2", "a1b1 b3a3", "b3b2 b3h3 a1a2")
	wells(t, in, "Ka1 Nc4 ra8 kb7", "a1b1 c4a3", "c4a5 c4d6 c4e5")
	wells(t, []uint8{0, 1, 2, 3, 4, 5, 6, 7}, "Ka1 Rb1 kh3", "b1b2 b1b3 b1h1 b1g1", "")
}

func TestWithoutKings(t *testing.T) {
	royal := append(kingly, api.Racing)
	wells(t, royal, "Ra1 Pc2 ka8", "", "a1b1 a1a2 c2c3")
	wells(t, []uint8{api.Antichess, api.Horde}, "Ra1 Pc2 ka8", "a1b1 a1a8 c2c3", "c2c5")
	wells(t, royal, "Ra1 qh8", "", "a1b1 a1a8")
	wells(t, royal, "Ke1 Ra1 Pc2", "a1b1 e1d2 c2c3", "")
	wells(t, []uint8{0, 1, 2, 5, 6, 8}, "Ke1 Ra1 re8", "e1d1", "a1b1 a1a8")
	wells(t, []uint8{api.Antichess, api.Horde}, "Ke1 Ra1 re8", "a1b1 a1a8 e1e2", "")
	wells(t, []uint8{api.Crazyhouse}, "Ra1 ka8 @Q", "", "Q@a2 a1a8")
}

// The first king counts: the one on the least square, ahead of the move and behind it.
func TestSeveralKings(t *testing.T) {
	royal := []uint8{0, 1, 2, 3, 5, 6, 8}
	wells(t, royal, "Kc1 Kh5 rc8 ka8", "c1b1", "h5h6 h5g4 c1c2")
	wells(t, royal, "Kc1 Kh5 rh7 ka8", "c1c2 h5h4 h5g5 h5h6", "")
	// Behind a move another one may be the first.
	wells(t, royal, "Kc2 Ka3 rh3 kg8", "c2c3 c2b3 c2b2 a3a2", "")
	wells(t, royal, "Kc2 Kd3 re8 rc7 kg8", "c2d2 c2b1", "d3d2 d3d4 d3e4 c2c3")
	wells(t, []uint8{api.Antichess, api.Horde}, "Kc1 Kh5 rc8 ka8", "c1b1 h5h6 h5g4 c1c2", "")
	wells(t, []uint8{api.Atomic}, "Ka1 Ke1 Qd1 pd2 kh8", "d1d2", "e1d2")
	wells(t, []uint8{api.Atomic}, "Ka1 Ke1 Qd1 pd2 kh8 ra8", "d1a4", "d1d2 d1b3")
	// In Racing the other color's first king counts, too.
	wells(t, []uint8{api.Racing}, "Ka1 Rb1 kd3 kh5", "b1b5 b1h1", "b1b3 b1d1")
	// In Atomic the other color has a king left.
	wells(t, []uint8{api.Atomic}, "Ke1 Qd1 re5 pd7 ke8 ka8", "d1e2", "d1d7 d1d2")
}

func TestWellOfVariantsAndTurnsThatThereAreNot(t *testing.T) {
	p := placed(api.Crazyhouse, "Ke1 Rh1 Pd7 ke8 rh8 pd2 >h1 >h8 @N @n")
	for v := range 256 {
		for turn := range 256 {
			if v < 9 && turn < 2 || v > 12 && turn > 5 && (v+turn)%16 > 0 {
				continue
			}
			q := p
			q.Variant, q.Turn = uint8(v), uint8(turn)
			for _, m := range moves("e1f1 e1*h1 N@a5 e8f8 e8*h8 d7d8q d2d1q h1h8 a1a1") {
				if legal.Well(q, m) {
					t.Errorf("variant %d, turn %d: %+v is well", v, turn, m)
				}
			}
		}
	}
}

// Wins don't count, nor does what must be taken.
func TestWellBesidesWins(t *testing.T) {
	wells(t, []uint8{api.KingHill}, "Ke4 ka8 Ra1", "e4e5 a1a2", "")
	wells(t, []uint8{api.KingHill}, "Ke1 kd5 Ra1", "e1e2 a1a2", "")
	wells(t, []uint8{api.ThreeCheck}, "Ke1 ka8 Rb1 + + + - - -", "e1e2 b1b2 b1b8", "b1c2")
	wells(t, []uint8{api.Racing}, "Ke8 kd1 Rb2", "e8e7 b2b3", "b2b1 b2d2")
	wells(t, []uint8{api.Antichess}, "Pe4 pd5 Kh1", "e4e5 e4d5 h1h2", "e4f5")
	wells(t, []uint8{api.Antichess}, "Pe4 Kh1", "e4e5 h1h2", "")
	wells(t, []uint8{api.Atomic}, "Ke1 Ra1", "a1a2 e1d1", "")
}

func TestWellOfMixed(t *testing.T) {
	told := [2]int{}
	for _, p := range slices.Concat(mixed(1350), played()[:600]) {
		for _, m := range after.All(p) {
			checkWell(t, "mixed", p, m)
			told[0]++
			if plainWell(p, m) {
				told[1]++
			}
		}
	}
	if told[1] < 20000 || told[0]-told[1] < 20000 {
		t.Errorf("%d moves are well of %d: too few to tell much", told[1], told[0])
	}
}
