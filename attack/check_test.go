package attack_test

import (
	"strconv"
	"testing"

	"kibitzer/api"
	"kibitzer/attack"
)

// kept: whether the variant's king of that color must not be lost, told apart from the layers.
func kept(variant, color uint8) bool {
	switch variant {
	case api.Antichess:
		return false
	case api.Horde:
		return color == api.Black
	}
	return variant <= api.Racing && color <= api.Black
}

// plainKing is the least square of the color's kings; -1, if it has none.
func plainKing(p api.Position, color uint8) int {
	for s, number := range p.Board {
		if number == 8*color+api.King {
			return s
		}
	}
	return -1
}

// plainCheckers are those that attack the color's king, none if it is not in check.
func plainCheckers(p api.Position, color uint8) uint64 {
	if !kept(p.Variant, color) {
		return 0
	}
	king := plainKing(p, color)
	if king < 0 {
		return 0
	}
	if p.Variant == api.Atomic {
		for s, number := range p.Board {
			if number == 8*(1-color)+api.King && abs(s%8-king%8) <= 1 && abs(s/8-king/8) <= 1 {
				return 0
			}
		}
	}
	return plainBy(p, king, 1-color)
}

// checkChecks asks Check of both colors, and Checkers, whoever is to move.
func checkChecks(t *testing.T, what string, p api.Position, white, black uint64) {
	t.Helper()
	for turn := range uint8(2) {
		p.Turn = turn
		checkBool(t, what+": Check White", p, attack.Check(p, api.White), white != 0)
		checkBool(t, what+": Check Black", p, attack.Check(p, api.Black), black != 0)
		check(t, what+": Checkers", p, attack.Checkers(p), [2]uint64{white, black}[turn])
	}
}

// P8.3

// checks are what attacks White's king, and Black's, by the pieces alone; the kings are no neighbours.
var checks = []struct{ pieces, white, black string }{
	{"Ke1 Ra1 ke8 re5", "e5", ""},
	{"Ke1 ke8", "", ""},
	{"Ke1 Re4 ke8 re5", "", ""},
	{"Ke1 Re7 ke8", "", "e7"},
	{"Ke1 ke8 pd2 pf2", "d2 f2", ""},
	{"Ke1 ke8 pd1 pf1 pe2", "", ""},
	{"Ke1 ke8 Pd7 Pf7 Pe7", "", "d7 f7"},
	{"Ke1 ke8 nd3 nf3 ng2 nc2", "d3 f3 g2 c2", ""},
	{"Ke1 ke8 Nd6 rh1 Bb5 ba5", "h1 a5", "d6 b5"},
	{"Ke1 ke8 qe2 Qh8", "e2", "h8"},
	{"Ke1 ke8 qe3 Ne2 Qe6 be7", "", ""},
	{"Ke1 ke8 Rf1 Bd2 Nf3 Qd1 Pf2", "", ""},
	{"Ke1 ke8 rf8 bd7 nf6 qd8 pd2 pf7", "d2", ""},
	{"Ka1 kh8 Qb2", "", "b2"},
	{"Kh1 ka8 qa1 rh8 be4 nf2", "a1 h8 e4 f2", ""},
}

func TestChecksByVariant(t *testing.T) {
	for v := range api.Variants {
		for _, c := range checks {
			p := placed(c.pieces)
			p.Variant = v
			white, black := set(c.white), set(c.black)
			if !kept(v, api.White) {
				white = 0
			}
			if !kept(v, api.Black) {
				black = 0
			}
			checkChecks(t, c.pieces, p, white, black)
		}
	}
}

func TestKingsThatMayBeLost(t *testing.T) {
	p := placed("Ke1 ke8 re5 Nd6")
	p.Variant = api.Antichess
	checkChecks(t, "antichess", p, 0, 0)
	p.Variant = api.Horde
	checkChecks(t, "horde", p, 0, set("d6"))
	p.Variant = api.Racing
	checkChecks(t, "racing", p, set("e5"), set("d6"))
}

func TestChecksOfNoVariant(t *testing.T) {
	for v := int(api.Variants); v < 256; v++ {
		p := placed("Ke1 ke8 re5 Nd6")
		p.Variant = uint8(v)
		checkChecks(t, "variant "+strconv.Itoa(v), p, 0, 0)
	}
}

func TestChecksOfNoKing(t *testing.T) {
	for v := range api.Variants {
		p := placed("Qd1 qd8 Ra1 ra8")
		p.Variant = v
		checkChecks(t, "no kings", p, 0, 0)
		p = placed("Qd1 Ke1 ra1 qd8 pf2")
		p.Variant = v
		white := set("f2")
		if !kept(v, api.White) {
			white = 0
		}
		checkChecks(t, "White's king alone", p, white, 0)
		// A number that is no king's, though its lower bits are.
		p.Board[at("e1")] = 16 + api.King
		checkChecks(t, "no king, but a stranger", p, 0, 0)
	}
}

func TestTheFirstOfTwoKings(t *testing.T) {
	for v := range api.Variants {
		var want [2]uint64
		for color := range want {
			if kept(v, uint8(color)) {
				want[color] = 1
			}
		}
		p := placed("Ke1 Ka4 rh4 ke8 kb7 Rb1 Rh7")
		p.Variant = v
		checkChecks(t, "the second ones of White, the first of Black", p, 0, want[1]*set("b1 h7"))
		p = placed("Ke1 Ka4 rh4 kh8 kb8 Qh7")
		p.Variant = v
		checkChecks(t, "the second ones alone", p, 0, 0)
	}
}

func TestNeighbouringKings(t *testing.T) {
	for v := range api.Variants {
		var want [2]uint64
		for color := range want {
			if kept(v, uint8(color)) && v != api.Atomic {
				want[color] = 1
			}
		}
		for _, near := range []string{"c3", "d3", "e3", "c4", "e4", "c5", "d5", "e5"} {
			p := placed("Kd4 k" + near + " nf3 Nb3 Nb4 Nf2 Nb2")
			p.Variant = v
			checkChecks(t, "Black's king on "+near, p, want[0]*(set("f3")|set(near)), want[1]*plainBy(p, at(near), api.White))
		}
	}
}

func TestAtomicKings(t *testing.T) {
	for _, c := range []struct{ pieces, white, black string }{
		{"Ke4 kf5 rh4 Rh5 qa8", "", ""},
		{"Ke4 kf6 rh4 Nd5", "h4", "d5"},
		{"Ke4 ke6 rh4 Rh6", "h4", "h6"},
		{"Kh4 ka5 rh8 Ra1", "h8", "a1"},
		{"Kh4 ka6 rh8 Ra1", "h8", "a1"},
		// Of two kings of the other color one beside the first one shelters it; one beside the second doesn't.
		{"Ke1 kb8 kf2 ra1", "", ""},
		{"Ke1 Ka8 kb8 re5 Rb1", "e5", ""},
		{"Ke1 Ka8 kh7 re5 Rh2", "e5", "h2"},
	} {
		p := placed(c.pieces)
		p.Variant = api.Atomic
		checkChecks(t, c.pieces, p, set(c.white), set(c.black))
	}
}

func TestAtomicAlone(t *testing.T) {
	// One's own king beside it, and pieces of other kinds there, shelter no king.
	p := placed("Ke1 Kf1 qe2 kh8 Kg1 rd1 nf3 bf2")
	p.Variant = api.Atomic
	checkChecks(t, "own kings", p, set("e2 d1 f3 f2"), 0)
}

func TestChecksOfNoColor(t *testing.T) {
	for _, p := range mixed() {
		for _, color := range noColors {
			checkBool(t, "Check of color "+strconv.Itoa(int(color)), p, attack.Check(p, color), false)
			p.Turn = color
			check(t, "Checkers, color "+strconv.Itoa(int(color))+" to move", p, attack.Checkers(p), 0)
		}
	}
}

func TestChecksOfWholePositions(t *testing.T) {
	for _, p := range mixed() {
		for v := range uint8(12) {
			p.Variant = v
			checkChecks(t, "variant "+strconv.Itoa(int(v)), p, plainCheckers(p, api.White), plainCheckers(p, api.Black))
		}
	}
}

func TestChecksOfTwoKings(t *testing.T) {
	d := dice(88)
	for range 400 {
		p := d.filled(3)
		for range 2 {
			p.Board[d.below(64)] = api.King
			p.Board[d.below(64)] = 8 + api.King
		}
		for v := range api.Variants {
			p.Variant = v
			checkChecks(t, "variant "+strconv.Itoa(int(v)), p, plainCheckers(p, api.White), plainCheckers(p, api.Black))
		}
	}
}
