package pseudo_test

import (
	"strconv"
	"strings"
	"testing"

	"kibitzer/api"
	"kibitzer/pseudo"
)

// P13.1: knights, kings, rooks, bishops, queens

// goes is where a White piece on the square goes, with these others on the board.
type goes struct {
	letter, square, others, to string
}

// moves are the texts of moves from one square to each of the others.
func moves(from, to string) string {
	var l []string
	for _, s := range strings.Fields(to) {
		l = append(l, from+s)
	}
	return strings.Join(l, " ")
}

// alone are pieces with nothing in their way.
func alone() []goes {
	return []goes{
		{"N", "d4", "", "c2 e2 b3 f3 b5 f5 c6 e6"},
		{"N", "a1", "", "c2 b3"},
		{"N", "h1", "", "f2 g3"},
		{"N", "a8", "", "b6 c7"},
		{"N", "h8", "", "g6 f7"},
		{"N", "a4", "", "b2 c3 c5 b6"},
		{"N", "h5", "", "g3 f4 f6 g7"},
		{"N", "d1", "", "b2 f2 c3 e3"},
		{"N", "e8", "", "d6 f6 c7 g7"},
		{"N", "b2", "", "d1 d3 a4 c4"},
		{"N", "g7", "", "f5 h5 e6 e8"},
		{"K", "d4", "", "c3 d3 e3 c4 e4 c5 d5 e5"},
		{"K", "a1", "", "b1 a2 b2"},
		{"K", "h1", "", "g1 g2 h2"},
		{"K", "a8", "", "a7 b7 b8"},
		{"K", "h8", "", "g7 h7 g8"},
		{"K", "e1", "", "d1 f1 d2 e2 f2"},
		{"K", "e8", "", "d7 e7 f7 d8 f8"},
		{"K", "a4", "", "a3 b3 b4 a5 b5"},
		{"K", "h4", "", "g3 h3 g4 g5 h5"},
		{"B", "d4", "", "a1 g1 b2 f2 c3 e3 c5 e5 b6 f6 a7 g7 h8"},
		{"B", "a1", "", "b2 c3 d4 e5 f6 g7 h8"},
		{"B", "h1", "", "g2 f3 e4 d5 c6 b7 a8"},
		{"B", "a8", "", "h1 g2 f3 e4 d5 c6 b7"},
		{"B", "h8", "", "a1 b2 c3 d4 e5 f6 g7"},
		{"B", "a4", "", "d1 c2 b3 b5 c6 d7 e8"},
		{"B", "h4", "", "e1 f2 g3 g5 f6 e7 d8"},
		{"B", "d1", "", "c2 e2 b3 f3 a4 g4 h5"},
		{"B", "d8", "", "h4 a5 g5 b6 f6 c7 e7"},
		{"R", "d4", "", "d1 d2 d3 a4 b4 c4 e4 f4 g4 h4 d5 d6 d7 d8"},
		{"R", "a1", "", "b1 c1 d1 e1 f1 g1 h1 a2 a3 a4 a5 a6 a7 a8"},
		{"R", "h8", "", "h1 h2 h3 h4 h5 h6 h7 a8 b8 c8 d8 e8 f8 g8"},
		{"R", "h1", "", "a1 b1 c1 d1 e1 f1 g1 h2 h3 h4 h5 h6 h7 h8"},
		{"R", "a8", "", "a1 a2 a3 a4 a5 a6 a7 b8 c8 d8 e8 f8 g8 h8"},
		{"R", "a4", "", "a1 a2 a3 b4 c4 d4 e4 f4 g4 h4 a5 a6 a7 a8"},
		{"R", "d8", "", "d1 d2 d3 d4 d5 d6 d7 a8 b8 c8 e8 f8 g8 h8"},
		{"Q", "d4", "", "a1 d1 g1 b2 d2 f2 c3 d3 e3 a4 b4 c4 e4 f4 g4 h4 c5 d5 e5 b6 d6 f6 a7 d7 g7 d8 h8"},
		{"Q", "a1", "", "b1 c1 d1 e1 f1 g1 h1 a2 b2 a3 c3 a4 d4 a5 e5 a6 f6 a7 g7 a8 h8"},
		{"Q", "h8", "", "a1 h1 b2 h2 c3 h3 d4 h4 e5 h5 f6 h6 g7 h7 a8 b8 c8 d8 e8 f8 g8"},
		{"Q", "h4", "", "e1 h1 f2 h2 g3 h3 a4 b4 c4 d4 e4 f4 g4 g5 h5 f6 h6 e7 h7 d8 h8"},
	}
}

// met are pieces with the other color's pieces in their way: up to them they go, and take them.
func met() []goes {
	return []goes{
		{"N", "d4", "pc2 ne6 bf3 kd3 qd5 rc4 pe4", "c2 e2 b3 f3 b5 f5 c6 e6"},
		{"N", "a1", "pc2 pb3 pa2 pb1 pb2", "c2 b3"},
		{"B", "d4", "pe5 pb2 nf2", "b2 f2 c3 e3 c5 e5 b6 a7"},
		{"B", "a1", "rg7 rh8", "b2 c3 d4 e5 f6 g7"},
		{"R", "d4", "pd5 nb4 bd1 qh4", "d1 d2 d3 b4 c4 e4 f4 g4 h4 d5"},
		{"R", "h8", "kh7 kg8", "h7 g8"},
		{"Q", "d4", "pd5 pe5 pe4 pe3 pd3 pc3 pc4 pc5", "c3 d3 e3 c4 e4 c5 d5 e5"},
		{"Q", "a1", "nc1 na3 nc3", "b1 c1 a2 b2 a3 c3"},
	}
}

func TestMenWithNothingInTheirWay(t *testing.T) {
	for _, x := range alone() {
		checkGoes(t, x)
	}
}

func TestMenThatTake(t *testing.T) {
	for _, x := range met() {
		checkGoes(t, x)
	}
}

// checkGoes holds a single piece's moves against these, in every variant, of both colors.
func checkGoes(t *testing.T, x goes) {
	t.Helper()
	texts := x.letter + x.square + " " + x.others
	for _, v := range variants {
		check(t, texts, placed(v, 0, texts), moves(x.square, x.to))
		check(t, texts+", colors exchanged", placed(v, 1, exchanged(texts)), moves(x.square, x.to))
		checkPlainly(t, texts+", out of turn", placed(v, 1, texts))
	}
}

func TestMenBehindTheirOwn(t *testing.T) {
	for _, x := range []struct{ texts, want string }{
		{"Na1 Kc2 Kb3", "a1"},
		{"Ba1 Bb2", "a1"},
		{"Ra1 Ka2 Nb1", "a1"},
		{"Qa1 Ra2 Nb2 Bb1", "a1"},
		{"Kh8 Rh7 Qg8 Bg7", "h8"},
		{"Nh8 Bg6 Bf7", "h8"},
	} {
		for _, v := range variants {
			p := placed(v, 0, x.texts)
			for _, m := range pseudo.List(p) {
				if text(m)[:2] == x.want {
					t.Errorf("%s: %s is told", x.texts, text(m))
				}
			}
			checkPlainly(t, x.texts, p)
			checkPlainly(t, x.texts, placed(v, 1, exchanged(x.texts)))
		}
	}
	// Its own pieces stop it ahead of them, wherever they stand on its way; the pawns in these places are stuck.
	for _, x := range []goes{
		{"R", "d4", "Pd7 pd8 Pb4 pb5 Pf4 pf5 Pd2 pd3", "d3 c4 e4 d5 d6"},
		{"B", "d4", "Pf6 pf7 Pb6 pb7 Pb2 pb3 pb4 Pf2 pf3 pf4", "c3 e3 c5 e5"},
		{"Q", "d4", "Pd6 pd7 Pf6 pf7 Pf4 pf5 Pb4 pb5 Pb6 pb7 Pb2 pb3", "g1 d1 d2 f2 c3 d3 e3 c4 e4 c5 d5 e5"},
	} {
		texts := x.letter + x.square + " " + x.others
		for _, v := range variants {
			p := placed(v, 0, texts)
			l := pseudo.List(p)
			var own []api.Move
			for _, m := range l {
				if int(m.From) == at(x.square) {
					own = append(own, m)
				}
			}
			want := map[string]bool{}
			for _, s := range strings.Fields(x.to) {
				want[x.square+s] = true
			}
			if len(own) != len(want) {
				t.Errorf("%s: %q, not %q", texts, told(own), x.to)
			}
			for _, m := range own {
				if !want[text(m)] {
					t.Errorf("%s: %s is told", texts, text(m))
				}
			}
			checkPlainly(t, texts, p)
			checkPlainly(t, texts, placed(v, 1, exchanged(turned(texts))))
		}
	}
}

func TestKingsTake(t *testing.T) {
	texts := "Kd4 pc3 nd3 be3 rc4 qe4 kc5 pd5 pe5"
	for _, v := range variants {
		want := moves("d4", "c3 d3 e3 c4 e4 c5 d5 e5")
		if v == api.Atomic {
			want = ""
		}
		check(t, "a king among others", placed(v, 0, texts), want)
		check(t, "a king among others", placed(v, 1, exchanged(texts)), want)
	}
}

func TestKingsOfAtomic(t *testing.T) {
	for _, x := range []struct{ texts, want string }{
		{"Ke1 pd2 re2", "e1d1 e1f1 e1f2"},
		{"Ke1 pd1 nf1 bd2 qf2", "e1e2"},
		{"Ka1 ka2", "a1b1 a1b2"},
		{"Ke1 kf1", "e1d1 e1d2 e1e2 e1f2"},
		{"Ke1 pd2 =e2", "e1d1 e1f1 e1e2 e1f2"},
		{"Ke1 Kf1 pe2", "e1d1 e1d2 e1f2 f1g1 f1f2 f1g2"},
		{"Kh8 Rh7 pg7 Bg8", "h7"},
	} {
		for color, texts := range []string{x.texts, exchanged(x.texts)} {
			p := placed(api.Atomic, uint8(color), texts)
			if x.want != "h7" {
				check(t, "Atomic: "+texts, p, x.want)
			}
			checkPlainly(t, "Atomic: "+texts, p)
		}
	}
	// Other pieces of Atomic take as ever, a king, too.
	check(t, "Atomic", placed(api.Atomic, 0, "Ra1 ra2 kb1"), "a1b1 a1a2")
	check(t, "Atomic", placed(api.Atomic, 0, "Na1 kc2 kb3"), "a1c2 a1b3")
	check(t, "Atomic", placed(api.Atomic, 0, "Pa2 kb3 ka3"), "a2b3")
}

func TestKingsMayStepAnywhere(t *testing.T) {
	// Whether their king is attacked then is not asked here.
	for _, v := range variants {
		check(t, "into checks", placed(v, 0, "Ka1 rb8 qh2"), "a1b1 a1a2 a1b2")
		check(t, "out of a pin", placed(v, 0, "Ka1 Na2 ra8 bb1 bb2 kh8 pc3"), map[bool]string{false: "a1b1 a1b2 a2c1 a2c3 a2b4", true: "a2c1 a2c3 a2b4"}[v == api.Atomic])
	}
}

// Each kind on each square, alone, and with one other piece of each color anywhere on the board.
func TestEachKindOnEachSquare(t *testing.T) {
	for _, number := range men {
		for s := range 64 {
			for _, v := range variants {
				p := placed(v, number>>3, "")
				p.Board[s] = number
				checkPlainly(t, "alone", p)
				p.Turn = 1 - p.Turn
				check(t, "out of turn", p, "")
			}
			for other := range 64 {
				if other == s {
					continue
				}
				for _, color := range colors {
					p := placed(variants[(s+other)%9], number>>3, "")
					p.Board[s], p.Board[other] = number, 8*color+1+uint8((s+3*other)%6)
					checkPlainly(t, "with another one on "+strconv.Itoa(other), p)
				}
			}
		}
	}
}
