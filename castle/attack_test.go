package castle_test

import (
	"slices"
	"strconv"
	"testing"

	"kibitzer/api"
	"kibitzer/attack"
	"kibitzer/castle"
)

// P14.1: attacked squares

// hunted is what White castles with its king on e1, its rooks on a1 and h1, where Black has these pieces.
type hunted struct{ pieces, want string }

// steppers are those that attack no lines.
func steppers() []hunted {
	return []hunted{
		{"pa2", "e1a1 e1h1"}, {"pb2", "e1h1"}, {"pc2", "e1h1"}, {"pd2", ""}, {"pe2", ""}, {"pf2", ""}, {"pg2", "e1a1"}, {"ph2", "e1a1"},
		{"pd3", "e1a1 e1h1"}, {"pe3", "e1a1 e1h1"},
		{"na3", "e1a1 e1h1"}, {"nb3", "e1h1"}, {"nc3", "e1h1"}, {"nd3", ""}, {"ne3", ""}, {"nf3", ""}, {"ng3", "e1a1"}, {"nh3", "e1a1"},
		{"na2", "e1h1"}, {"nb2", "e1h1"}, {"nc2", ""}, {"nd2", "e1a1"}, {"ne2", ""}, {"nf2", "e1h1"}, {"ng2", ""}, {"nh2", "e1a1"},
		{"ne4", "e1a1 e1h1"},
	}
}

// sliders attack lines, till something stands on them.
func sliders() []hunted {
	return []hunted{
		{"ba2", "e1a1 e1h1"}, {"ba3", "e1h1"}, {"bb2", "e1h1"}, {"bb3", "e1h1"}, {"bb4", ""}, {"bc3", ""}, {"bh4", ""}, {"ba5", ""},
		{"bh3", "e1a1"}, {"bh2", "e1a1"}, {"bg2", "e1a1"}, {"bh6", "e1h1"}, {"bd4", "e1a1"}, {"be4", "e1a1 e1h1"}, {"bf3", "e1h1"},
		{"ra5", "e1a1 e1h1"}, {"rb5", "e1a1 e1h1"}, {"rc5", "e1h1"}, {"rd5", "e1h1"}, {"re5", ""}, {"rf5", "e1a1"}, {"rg5", "e1a1"}, {"rh5", "e1a1 e1h1"},
		{"rc5 Pc4", "e1a1 e1h1"}, {"rf5 Nf3", "e1a1 e1h1"}, {"rf5 pf4", "e1a1 e1h1"}, {"re5 Pe2", "e1a1 e1h1"}, {"bh3 Ng2", "e1a1 e1h1"}, {"bb4 Pd2", "e1a1 e1h1"},
		{"qb5", "e1a1"}, {"qh5", "e1h1"}, {"qa3", "e1h1"}, {"qa5", ""}, {"qa8", "e1a1 e1h1"}, {"qe7", ""}, {"qb8", "e1a1 e1h1"}, {"qh6", "e1h1"},
		{"rb5 bh6", "e1h1"}, {"rd5 rf5", ""}, {"rb5 qa8 rh5", "e1a1 e1h1"},
	}
}

// kings are Black's king's places; in Atomic it takes away nothing.
func kings() []hunted {
	return []hunted{
		{"ka2", "e1a1 e1h1"}, {"kb2", "e1h1"}, {"kc2", "e1h1"}, {"kd2", ""}, {"ke2", ""}, {"kf2", ""}, {"kg2", "e1a1"}, {"kh2", "e1a1"},
		{"kd3", "e1a1 e1h1"},
	}
}

func TestAttackedSquares(t *testing.T) {
	for _, v := range castling {
		for _, x := range slices.Concat(steppers(), sliders()) {
			check(t, x.pieces, placed(v, "Ke1 Ra1 Rh1 "+x.pieces, "ha"), x.want)
		}
		for _, x := range kings() {
			if v == api.Atomic {
				x.want = "e1a1 e1h1"
			}
			check(t, x.pieces, placed(v, "Ke1 Ra1 Rh1 "+x.pieces, "ha"), x.want)
		}
	}
}

// Own pieces attack nothing that counts.
func TestOwnPiecesAttackNothing(t *testing.T) {
	for _, pieces := range []string{"Re5 Rf5 Rd5", "Qe2", "Nf3 Nc3", "Bb4 Bh3", "Pd2 Pf2", "Kf2"} {
		check(t, pieces, placed(api.Standard, "Ke1 Ra1 Rh1 "+pieces, "ha"), "e1a1 e1h1")
	}
}

// Each kind of the other color on each square, with king and rook on each file.
func TestAttackersOnEachSquare(t *testing.T) {
	eachFile(func(king, rook, side int, p api.Position, text string) {
		p.Board[at("a8")] = 0
		for s := range 64 {
			if s == king || s == rook {
				continue
			}
			for kind := api.Pawn; kind <= api.King; kind++ {
				q := p
				q.Board[s] = 8 + kind
				checkPlainly(t, text+", attacked from "+strconv.Itoa(s), q)
				q.Variant = api.Atomic
				checkPlainly(t, text+", Atomic, attacked from "+strconv.Itoa(s), q)
			}
		}
	})
}

// Squares that the rook alone goes over may be attacked.
func TestRookAlone(t *testing.T) {
	for _, x := range []struct{ texts, rights, want string }{
		{"Kc1 Ra1 ra8 rb8 rd8", ".a", "c1a1"},
		{"Kg1 Rh1 rf8 rh8", "h.", "g1h1"},
		{"Kd1 Ra1 ra8 rb8", ".a", "d1a1"},
		{"Kb1 Rh1 rh8", "h.", "b1h1"},
		{"Kh1 Rg1 rd8", ".g", ""},
		{"Kf1 Rg1 rh8", "g.", "f1g1"},
		{"Kf1 Rg1 rg8", "g.", ""},
		{"Kd1 Rc1 rc8", ".c", ""},
		{"Kd1 Rc1 rb8 re8", ".c", "d1c1"},
		{"Kc1 Ra1 rc8", ".a", ""},
		{"Kg1 Rh1 rg8", "h.", ""},
	} {
		check(t, x.texts, placed(api.Chess960, x.texts, x.rights), x.want)
	}
}

// King and rook are off the board when attacks are asked for.
func TestAttacksThroughKingAndRook(t *testing.T) {
	for _, x := range []struct {
		v                   uint8
		texts, rights, want string
	}{
		{api.Chess960, "Kc1 Rb1 ra1", ".b", ""},
		{api.Chess960, "Kc1 Rb1 qa1", ".b", ""},
		{api.Chess960, "Kc1 Rb1 ba1", ".b", "c1b1"},
		{api.Chess960, "Kc1 Rb1 na1", ".b", "c1b1"},
		{api.Chess960, "Kc1 Rb1 ra2", ".b", "c1b1"},
		{api.Chess960, "Kc1 Rb1 Ra1", ".b", "c1b1"},
		{api.Chess960, "Kd1 Rb1 ra1", ".b", ""},
		{api.Chess960, "Kh1 Rb1 qa1", ".b", ""},
		{api.Chess960, "Kf1 Rg1 rh1", "g.", ""},
		{api.Chess960, "Ke1 Rf1 qh1", "f.", ""},
		// Beside the other color's king a king counts as not attacked, but what is behind it does.
		{api.Atomic, "Ke1 Rh1 kd2 ra1", "h.", ""},
		{api.Atomic, "Ke1 Rh1 kd2 qb1", "h.", ""},
		{api.Atomic, "Ke1 Rh1 kd2 na1", "h.", "e1h1"},
		{api.Atomic, "Ke1 Rh1 kd2", "h.", "e1h1"},
		{api.Atomic, "Ke1 Ra1 kf2 rh1", ".a", ""},
		{api.Atomic, "Ke1 Ra1 kf2 bh1", ".a", "e1a1"},
		{api.Atomic, "Kf1 Rd1 kg2 rh1", ".d", ""},
	} {
		check(t, x.texts, placed(x.v, x.texts, x.rights), x.want)
	}
}

func TestBesideTheOtherKingOfAtomic(t *testing.T) {
	for _, x := range []hunted{
		{"ke2", "e1a1 e1h1"},
		{"kf2 re8 rg8", "e1a1 e1h1"},
		{"kf2 nf3", "e1a1 e1h1"},
		{"kf2 ne3", "e1h1"},
		{"kf2 rd8", "e1h1"},
		{"kf2 rc8", "e1h1"},
		{"kd2 re8", "e1a1 e1h1"},
		{"kd2 rf8", "e1a1"},
		{"kd2 rg8", "e1a1"},
		{"kd2 rc8", "e1a1 e1h1"},
		{"kh2 rg8", "e1a1 e1h1"},
		{"kh2 rf8", "e1a1"},
		{"kh2 re8", ""},
		{"kb2 rc8", "e1a1 e1h1"},
		{"kb2 rd8", "e1h1"},
		{"ka2 rc8", "e1h1"},
		// Own kings, and other pieces there, keep nobody off.
		{"Kf2 re8", ""},
		{"Kf2 rg8", "e1a1"},
		{"qf2", ""},
		{"Ke2 rf8 rd8", ""},
		{"kh8 rf8", "e1a1"},
		// Whichever of the other color's kings it is.
		{"kf2 ka4 re8", "e1a1 e1h1"},
		{"kf2 kd7 rg8", "e1a1 e1h1"},
		{"ka2 kf2 re8", "e1a1 e1h1"},
	} {
		check(t, "Atomic: "+x.pieces, placed(api.Atomic, "Ke1 Ra1 Rh1 "+x.pieces, "ha"), x.want)
	}
}

// Each place of the other color's king, and of one of its pieces, in Atomic.
func TestKingsAndAttackersOfAtomic(t *testing.T) {
	p := placed(api.Atomic, "Ke1 Ra1 Rh1", "ha")
	for king := range 64 {
		for s := range 64 {
			if p.Board[king] != 0 || p.Board[s] != 0 || king == s {
				continue
			}
			q := p
			q.Board[king], q.Board[s] = 14, 9+uint8((king+s)%5)
			checkPlainly(t, "Atomic", q)
			q.Board[s] = 12
			checkPlainly(t, "Atomic", q)
		}
	}
}

// P14.3

// inChess are the castlings with king and rooks at their first squares, as chess tells them.
func inChess(p api.Position) []api.Move {
	safe := func(files ...int) bool {
		for _, f := range files {
			if attack.On(p, 56*int(p.Turn)+f, 1-p.Turn) {
				return false
			}
		}
		return true
	}
	var l []api.Move
	home := int8(56 * p.Turn)
	if !attack.Check(p, p.Turn) && safe(3, 2) {
		l = append(l, api.Move{From: home + 4, To: home, Castle: true})
	}
	if !attack.Check(p, p.Turn) && safe(5, 6) {
		l = append(l, api.Move{From: home + 4, To: home + 7, Castle: true})
	}
	return l
}

func TestAsInChess(t *testing.T) {
	d := dice(143)
	told := [3]int{}
	for i := range 8000 {
		p := placed(api.Standard, "Ke1 Ra1 Rh1", "ha")
		for range i % 24 {
			p.Board[8+d.below(56)] = d.oneOf(men)
		}
		// White's one king is that on e1.
		for s := 8; s < 64; s++ {
			if p.Board[s] == api.King {
				p.Board[s] = api.Pawn
			}
		}
		for _, q := range []api.Position{p, turned(p)} {
			got, want := castle.List(q), inChess(q)
			if !slices.Equal(got, want) {
				t.Errorf("%v, not %v: %+v", got, want, q)
			}
			told[len(want)]++
		}
	}
	if slices.Min(told[:]) < 500 {
		t.Errorf("none, one, two castlings: %v", told)
	}
}
