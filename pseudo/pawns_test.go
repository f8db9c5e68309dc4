package pseudo_test

import (
	"strings"
	"testing"

	"kibitzer/api"
)

// P13.1: pawns

// checkPawns holds White's pawns' moves in all variants against these, and Black's, as the board is turned about, against plain reckoning.
func checkPawns(t *testing.T, texts, want string) {
	t.Helper()
	for _, v := range variants {
		check(t, texts, placed(v, 0, texts), want)
		checkPlainly(t, texts+", turned about", placed(v, 1, exchanged(turned(texts))))
	}
}

func TestPawnsAhead(t *testing.T) {
	for _, x := range []struct{ texts, want string }{
		{"Pe2", "e2e3 e2e4"},
		{"Pa2", "a2a3 a2a4"},
		{"Ph2", "h2h3 h2h4"},
		{"Pe3", "e3e4"},
		{"Pe4", "e4e5"},
		{"Pe5", "e5e6"},
		{"Pe6", "e6e7"},
		{"Pe8", ""},
		{"Pa8 Ph8", ""},
		{"Pe2 pe3", ""},
		{"Pe2 ne3", ""},
		{"Pe2 ke4", "e2e3"},
		{"Pe2 pe4", "e2e3"},
		{"Pe2 Pe3", "e3e4"},
		{"Pe2 Pe4", "e2e3 e4e5"},
		{"Pe2 pe5", "e2e3 e2e4"},
		{"Pe3 pe4", ""},
		{"Pe3 pe5", "e3e4"},
		{"Pe4 Pe5 pe6", ""},
		{"Pa2 Pb2 pa4 pb3", "a2a3 a2b3"},
	} {
		checkPawns(t, x.texts, x.want)
	}
}

func TestBlacksPawnsAhead(t *testing.T) {
	for _, x := range []struct{ texts, want string }{
		{"pe7", "e7e5 e7e6"},
		{"pa7", "a7a5 a7a6"},
		{"ph7", "h7h5 h7h6"},
		{"pe6", "e6e5"},
		{"pe3", "e3e2"},
		{"pe1", ""},
		{"pe7 Pe6", ""},
		{"pe7 Ke5", "e7e6"},
		{"pe7 pe6", "e6e5"},
		{"pe7 pe5", "e5e4 e7e6"},
		{"pe8", "e8e7"},
		{"pe2 Pe1", ""},
		{"pe4 Pd3 Pf3 Pe3", "e4d3 e4f3"},
		{"pe4 Pd4 =d3", "e4d3 e4e3"},
		{"pe4 Pf4 =f3", "e4e3 e4f3"},
		{"pa4 Pb4 Ph3 =h3", "a4a3"},
		{"ph5 Pa3 =a4", "h5h4"},
	} {
		for _, v := range variants {
			check(t, x.texts, placed(v, 1, x.texts), x.want)
		}
	}
}

func TestPawnsFromHome(t *testing.T) {
	for _, x := range []struct{ texts, horde, others string }{
		{"Pe1", "e1e2 e1e3", "e1e2"},
		{"Pa1", "a1a2 a1a3", "a1a2"},
		{"Ph1", "h1h2 h1h3", "h1h2"},
		{"Pe1 pe3", "e1e2", "e1e2"},
		{"Pe1 pe2", "", ""},
		{"Pe1 pe4", "e1e2 e1e3", "e1e2"},
		{"Pe1 Pe2", "e2e3 e2e4", "e2e3 e2e4"},
		{"Pe1 Pe3", "e1e2 e3e4", "e1e2 e3e4"},
		{"Pe1 nd2 nf2", "e1d2 e1e2 e1f2 e1e3", "e1d2 e1e2 e1f2"},
	} {
		for _, v := range variants {
			want := x.others
			if v == api.Horde {
				want = x.horde
			}
			check(t, x.texts, placed(v, 0, x.texts), want)
		}
	}
	// Black's home is no place to go two squares from, in Horde neither.
	for _, v := range variants {
		check(t, "from Black's home", placed(v, 1, "pe8 pa8 ph8"), "a8a7 e8e7 h8h7")
		check(t, "from White's home", placed(v, 1, "pe1"), "")
	}
}

func TestPawnsTake(t *testing.T) {
	for _, x := range []struct{ texts, want string }{
		{"Pe4 pd5 pf5", "e4d5 e4e5 e4f5"},
		{"Pe4 pd5 pe5 pf5", "e4d5 e4f5"},
		{"Pe4 nd5", "e4d5 e4e5"},
		{"Pe4 kf5", "e4e5 e4f5"},
		{"Pe4 pd3 pf3 pd4 pf4", "e4e5"},
		{"Pe2 pd3 pf3", "e2d3 e2e3 e2f3 e2e4"},
		{"Pa4 pb5 ph5 ph4", "a4a5 a4b5"},
		{"Ph4 pg5 pa5 pa6", "h4g5 h4h5"},
		{"Pa4 pa5 ph4", ""},
		{"Ph4 ph5 pa6", ""},
		{"Ph1 pa3 ph2", ""},
		{"Ph1 pg2 ph2", "h1g2"},
	} {
		checkPawns(t, x.texts, x.want)
	}
}

func TestPassing(t *testing.T) {
	for _, x := range []struct{ texts, want string }{
		{"Pe5 pd5 =d6", "e5d6 e5e6"},
		{"Pe5 pf5 =f6", "e5e6 e5f6"},
		{"Pd5 Pf5 pe5 =e6", "d5d6 d5e6 f5e6 f5f6"},
		{"Pa5 pb5 =b6", "a5a6 a5b6"},
		{"Ph5 pg5 =g6", "h5g6 h5h6"},
		// Nobody reaches it: beside others, behind, two files off, round the edge.
		{"Pe5 pd5 =d7", "e5e6"},
		{"Pe5 pc5 =c6", "e5e6"},
		{"Pe5 pd5 =d5", "e5e6"},
		{"Pe5 pd4 =d4", "e5e6"},
		{"Pe6 pd5 =d6", "e6e7"},
		{"Ph5 pa5 =a6", "h5h6"},
		{"Pa5 ph5 =h6", "a5a6"},
		{"Pa5 ph5 =h5", "a5a6"},
		// Straight ahead it is a square like others.
		{"Pe5 =e6", "e5e6"},
		{"Pe2 =e4", "e2e3 e2e4"},
		{"Pe2 =e3", "e2e3 e2e4"},
		// Whatever else stands where: the passing square alone is asked for.
		{"Pe5 =d6", "e5d6 e5e6"},
		{"Pe3 =d4", "e3d4 e3e4"},
		{"Pe2 =f3", "e2e3 e2f3 e2e4"},
		{"Pe5 pd6 pd5 =d6", "e5d6 e5e6"},
		{"Pe5 Pd6 pd7 =d6", "e5e6"},
		{"Pe5 Pd6 pd7 pf7 =f6", "e5e6 e5f6"},
		// Other pieces don't mind it.
		{"Nb4 pd5 =d6", "b4a2 b4c2 b4d3 b4d5 b4a6 b4c6"},
		{"Kd5 =d6", "d5c4 d5d4 d5e4 d5c5 d5e5 d5c6 d5d6 d5e6"},
	} {
		checkPawns(t, x.texts, x.want)
	}
}

func TestPassingThatIsNoSquare(t *testing.T) {
	for n := -128; n < 128; n++ {
		if n >= 0 && n < 64 {
			continue
		}
		for _, v := range variants {
			p := placed(v, 0, "Pa2 Pe5 Ph7 Pa8 pd5")
			p.Passing = int8(n)
			want := "a2a3 a2a4 e5e6 h7h8n h7h8b h7h8r h7h8q"
			switch v {
			case api.Antichess:
				want += " h7h8k"
			case api.Racing:
				want = "a2a3 a2a4 e5e6"
			}
			check(t, "White", p, want)
			q := placed(v, 1, "pa7 pe4 ph3 pa1 Pd4")
			q.Passing = int8(n)
			check(t, "Black", q, "h3h2 e4e3 a7a5 a7a6")
		}
	}
}

func TestPassingOnEachSquare(t *testing.T) {
	for s := range 64 {
		for _, v := range variants {
			p := placed(v, 0, "Pa1 Pb2 Pc3 Pd4 Pe5 Pf6 Pg7 Ph8 ph2 pg3 pf4 pd6 pc7 pa5 Kh6")
			p.Passing = int8(s)
			checkPlainly(t, "White", p)
			p.Turn = 1
			checkPlainly(t, "Black", p)
		}
	}
}

// becomes are a move's texts, once for each kind that a pawn may become in the variant.
func becomes(v uint8, moves string) string {
	letters := "nbrq"
	switch v {
	case api.Antichess:
		letters = "nbrqk"
	case api.Racing:
		letters = ""
	}
	var l []string
	for _, move := range strings.Fields(moves) {
		for _, letter := range letters {
			l = append(l, move+string(letter))
		}
	}
	return strings.Join(l, " ")
}

func TestPawnsThatBecomeSomething(t *testing.T) {
	for _, x := range []struct{ texts, want string }{
		{"Pa7", "a7a8"},
		{"Pe7", "e7e8"},
		{"Ph7", "h7h8"},
		{"Pa7 nb8", "a7a8 a7b8"},
		{"Ph7 ng8 rh8", "h7g8"},
		{"Pe7 nd8 qe8 kf8", "e7d8 e7f8"},
		{"Pe7 ke8", ""},
		{"Pe7 Pd8", "e7e8"},
		{"Pe7 =d8", "e7d8 e7e8"},
		{"Pa7 Pb7 nc8", "a7a8 b7b8 b7c8"},
	} {
		for _, v := range variants {
			check(t, x.texts, placed(v, 0, x.texts), becomes(v, x.want))
		}
	}
	for _, x := range []struct{ texts, want string }{
		{"pa2", "a2a1"},
		{"pe2", "e2e1"},
		{"ph2", "h2h1"},
		{"pa2 Nb1", "a2a1 a2b1"},
		{"ph2 Ng1 Rh1", "h2g1"},
		{"pe2 Nd1 Qe1 Kf1", "e2d1 e2f1"},
		{"pe2 =f1", "e2e1 e2f1"},
	} {
		for _, v := range variants {
			check(t, x.texts, placed(v, 1, x.texts), becomes(v, x.want))
		}
	}
}

// Beside a pawn that becomes something, the others' moves are told as ever, each in its place.
func TestOrder(t *testing.T) {
	for _, v := range variants {
		p := placed(v, 0, "Kh1 Pa7 nb8 Nh8 Pc2 Bh3 Rh2 Pg2")
		want := "h1g1 c2c3 c2c4 g2g3 g2g4 h3g4 h3f5 h3e6 h3d7 h3c8 " + becomes(v, "a7a8 a7b8") + " h8g6 h8f7"
		check(t, "order", p, strings.Join(strings.Fields(want), " "))
	}
}

// White's pawns go up, on whatever rank; Black's go down; the other rank of the board is nobody's last one.
func TestLastRanks(t *testing.T) {
	for _, v := range variants {
		check(t, "White", placed(v, 0, "Pb6 Pc7 pd2"), strings.TrimSpace("b6b7 "+becomes(v, "c7c8")))
		check(t, "Black", placed(v, 1, "pb3 pc2 Pd7"), strings.TrimSpace(becomes(v, "c2c1")+" b3b2"))
		check(t, "other pieces stay what they are", placed(v, 0, "Na7 Kh7 ra8"), "a7b5 a7c6 a7c8 h7g6 h7h6 h7g7 h7g8 h7h8")
	}
}
