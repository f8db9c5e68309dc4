package castle_test

import (
	"slices"
	"testing"

	"kibitzer/api"
	"kibitzer/castle"
)

// P14.2

// checkGoals holds Goals and Side against the squares of king and rook, and the side; -1, if the move is none by which who is to move castles.
func checkGoals(t *testing.T, p api.Position, m api.Move, king, rook, side int) {
	t.Helper()
	if k, r, ok := castle.Goals(p, m); k != king || r != rook || ok != (side >= 0) {
		t.Errorf("Goals of %+v: %d %d %v, not %d %d: Turn %d, Variant %d", m, k, r, ok, king, rook, p.Turn, p.Variant)
	}
	if got := castle.Side(p, m); got != side {
		t.Errorf("Side of %+v: %d, not %d: Turn %d, Variant %d", m, got, side, p.Turn, p.Variant)
	}
}

// checkPlainGoals holds both against what is reckoned plainly.
func checkPlainGoals(t *testing.T, p api.Position, m api.Move) {
	t.Helper()
	king, rook, side := 0, 0, -1
	if home := m.From / 8; m.Castle && m.From >= 0 && m.To >= 0 && m.From != m.To && m.To/8 == home {
		switch {
		case p.Turn == 0 && home == 0 && m.To > m.From:
			king, rook, side = 6, 5, 0
		case p.Turn == 0 && home == 0:
			king, rook, side = 2, 3, 1
		case p.Turn == 1 && home == 7 && m.To > m.From:
			king, rook, side = 62, 61, 0
		case p.Turn == 1 && home == 7:
			king, rook, side = 58, 59, 1
		}
	}
	checkGoals(t, p, m, king, rook, side)
}

func TestGoals(t *testing.T) {
	for _, x := range []struct {
		turn                       uint8
		move, kingsGoal, rooksGoal string
		side                       int
	}{
		{0, "e1h1", "g1", "f1", 0},
		{0, "e1a1", "c1", "d1", 1},
		{0, "a1b1", "g1", "f1", 0},
		{0, "g1h1", "g1", "f1", 0},
		{0, "f1g1", "g1", "f1", 0},
		{0, "b1a1", "c1", "d1", 1},
		{0, "h1g1", "c1", "d1", 1},
		{0, "d1c1", "c1", "d1", 1},
		{1, "e8h8", "g8", "f8", 0},
		{1, "e8a8", "c8", "d8", 1},
		{1, "a8b8", "g8", "f8", 0},
		{1, "h8a8", "c8", "d8", 1},
		// The other home, one square of each, off both, the same square twice.
		{0, "e8h8", "", "", -1},
		{1, "e1a1", "", "", -1},
		{0, "e1h8", "", "", -1},
		{0, "e8h1", "", "", -1},
		{1, "e8a1", "", "", -1},
		{0, "e1a2", "", "", -1},
		{0, "a2e1", "", "", -1},
		{1, "e8h7", "", "", -1},
		{1, "h7e8", "", "", -1},
		{0, "e4h4", "", "", -1},
		{0, "e1e1", "", "", -1},
		{1, "a8a8", "", "", -1},
	} {
		m := castlings(x.move)[0]
		king, rook := 0, 0
		if x.side >= 0 {
			king, rook = at(x.kingsGoal), at(x.rooksGoal)
		}
		for v := range api.Variants {
			p := placed(v, "Ke1 Ra1 Rh1 ke8 ra8 rh8", "ha")
			p.Turn = x.turn
			checkGoals(t, p, m, king, rook, x.side)
			m.Castle = false
			checkGoals(t, p, m, 0, 0, -1)
			m.Castle = true
		}
	}
}

// Each From and To there is room for, with Castle and without.
func TestGoalsOfEachMove(t *testing.T) {
	for from := -128; from < 128; from++ {
		for to := -128; to < 128; to++ {
			p := api.Position{Variant: uint8((from + 3*to + 1024) % 9)}
			for turn := range uint8(3) {
				p.Turn = turn
				m := api.Move{From: int8(from), To: int8(to), Castle: true}
				checkPlainGoals(t, p, m)
				m.Castle = false
				checkGoals(t, p, m, 0, 0, -1)
			}
		}
	}
}

func TestGoalsOfTurnsThatThereAreNot(t *testing.T) {
	for turn := 2; turn < 256; turn++ {
		p := placed(api.Chess960, "Ke1 Ra1 Rh1 ke8 ra8 rh8", "ha")
		p.Turn = uint8(turn)
		for _, m := range castlings("e1h1 e1a1 e8h8 e8a8 a4h4 h5a5") {
			checkGoals(t, p, m, 0, 0, -1)
		}
	}
}

// Whatever becomes of a pawn, or is dropped, besides: From, To and Castle alone are asked for.
func TestGoalsWithMoreBesides(t *testing.T) {
	for n := range 256 {
		for turn := range uint8(2) {
			p := placed(api.Standard, "Ke1 Ra1 Rh1 ke8 ra8 rh8", "ha")
			p.Turn = turn
			for _, m := range castlings("e1h1 e1a1 e8h8 e8a8 e4h4 e1e1 e8e8") {
				m.Promote = uint8(n)
				checkPlainGoals(t, p, m)
				m.Drop = uint8(n)
				checkPlainGoals(t, p, m)
				m.Promote = 0
				checkPlainGoals(t, p, m)
				m.Castle = false
				checkPlainGoals(t, p, m)
			}
		}
	}
}

// Where what stands, who may castle, and in which variant, doesn't count.
func TestGoalsWhateverStands(t *testing.T) {
	d := dice(142)
	for _, p := range mixed()[:500] {
		p.Variant = uint8(d.next())
		for _, m := range castlings("e1h1 e1a1 e8h8 e8a8 c1b1 b8c8 e1e8 d4h4") {
			checkPlainGoals(t, p, m)
			checkPlainGoals(t, turned(p), m)
		}
	}
}

// Of each castling that is told the goals are told, and the side whose right it has.
func TestGoalsOfCastlingsThatAreTold(t *testing.T) {
	for _, white := range mixed() {
		for _, p := range []api.Position{white, turned(white)} {
			l := castle.List(p)
			for _, m := range l {
				checkPlainGoals(t, p, m)
				side := castle.Side(p, m)
				if side < 0 || int(m.To) != plainRook(p, side) || int(m.From) != plainKing(p) {
					t.Errorf("%+v is of side %d: %+v", m, side, p)
				}
			}
			if !slices.IsSortedFunc(l, func(a, b api.Move) int { return castle.Side(p, b) - castle.Side(p, a) }) {
				t.Errorf("%v: %+v", l, p)
			}
		}
	}
}
