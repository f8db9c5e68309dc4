package castle_test

import (
	"slices"
	"strconv"
	"testing"

	"kibitzer/api"
	"kibitzer/castle"
)

// P14.1: kings, rooks, and the files that rights name

func TestKingsOnEachSquare(t *testing.T) {
	for s := range 64 {
		if s == 0 || s == 7 {
			continue
		}
		want := ""
		if s < 8 {
			k := string("abcdefgh"[s]) + "1"
			want = k + "a1 " + k + "h1"
		}
		for _, v := range castling {
			p := placed(v, "Ra1 Rh1", "ha")
			p.Board[s] = api.King
			check(t, "a king on "+strconv.Itoa(s), p, want)
			// The other color's king is none of who is to move, and what is no piece is nobody's.
			for _, number := range []uint8{14, 22, 134, 0} {
				p.Board[s] = number
				check(t, "no king", p, "")
			}
		}
	}
}

// The other color's home is none of who is to move, and its rights are none, either.
func TestOtherHome(t *testing.T) {
	for _, v := range castling {
		check(t, "all there", placed(v, "Ke8 Ra8 Rh8", "ha"), "")
		check(t, "the king there", placed(v, "Ke8 Ra1 Rh1", "ha"), "")
		check(t, "the rooks there", placed(v, "Ke1 Ra8 Rh8", "ha"), "")
		p := placed(v, "Ke1 Ra1 Rh1 ke8 ra8 rh8", "..")
		p.Rooks[1] = [2]int8{7, 0}
		check(t, "the other color's rights", p, "")
	}
}

// Of two kings the one on the least square counts; the other one is in the way like any piece.
func TestSecondKings(t *testing.T) {
	p := placed(api.Standard, "Ke1 Ra1 Rh1", "ha")
	for s := range 64 {
		if p.Board[s] != 0 {
			continue
		}
		want := "e1a1 e1h1"
		switch s {
		case at("b1"):
			want = "b1a1"
		case at("c1"):
			want = "c1a1"
		case at("d1"):
			want = "d1a1"
		case at("f1"), at("g1"):
			want = "e1a1"
		}
		q := p
		q.Board[s] = api.King
		check(t, "a second king on "+strconv.Itoa(s), q, want)
	}
}

// A king elsewhere stands on a lesser square than one on Black's home, but not on a lesser one than one on White's.
func TestSecondKingsOfBlack(t *testing.T) {
	for _, x := range []struct{ second, want string }{
		{"ka1", ""},
		{"kh7", ""},
		{"kb8", "b8a8"},
		{"kg8", "e8a8"},
		{"ke8", "e8a8 e8h8"},
	} {
		p := placed(api.Standard, "ke8 ra8 rh8 "+x.second, "..")
		p.Turn, p.Rooks[1] = api.Black, [2]int8{7, 0}
		if got := castle.List(p); !slices.Equal(got, castlings(x.want)) {
			t.Errorf("%s: %v, not %s", x.second, got, x.want)
		}
	}
}

func TestEachNumberInTheRooksPlace(t *testing.T) {
	for n := range 256 {
		h, a := "", ""
		if n == int(api.Rook) {
			h, a = "e1h1", "e1a1"
		}
		for _, v := range castling {
			p := placed(v, "Ke1 ke8", "h.")
			p.Board[at("h1")] = uint8(n)
			check(t, "on h1 "+strconv.Itoa(n), p, h)
			p = placed(v, "Ke1 ke8", ".a")
			p.Board[at("a1")] = uint8(n)
			check(t, "on a1 "+strconv.Itoa(n), p, a)
		}
	}
}

// A rook that isn't there takes nothing away from the other one.
func TestOneRookGone(t *testing.T) {
	check(t, "none on a1", placed(api.Standard, "Ke1 Rh1 ke8", "ha"), "e1h1")
	check(t, "none on h1", placed(api.Standard, "Ke1 Ra1 ke8", "ha"), "e1a1")
	check(t, "another one on a1", placed(api.Standard, "Ke1 Na1 Rh1 ke8", "ha"), "e1h1")
	check(t, "another one on h1", placed(api.Standard, "Ke1 Ra1 Bh1 ke8", "ha"), "e1a1")
	check(t, "the other color's on a1", placed(api.Standard, "Ke1 ra1 Nb1 Rh1 ke8", "ha"), "e1h1")
	check(t, "the other color's on h1", placed(api.Standard, "Ke1 Ra1 rh1 Ng1 ke8", "ha"), "e1a1")
}

// Rights to each number there is room for, with a single rook at home, and own rooks on all squares off it, which no number leads to.
func TestRightsToEachNumber(t *testing.T) {
	eachFile(func(king, rook, side int, p api.Position, text string) {
		for s := 8; s < 64; s++ {
			p.Board[s] = api.Rook
		}
		for n := -128; n < 128; n++ {
			for _, rights := range [][2]int8{{int8(n), -1}, {-1, int8(n)}, {int8(n), int8(n)}} {
				p.Rooks[0] = rights
				want := ""
				if int(rights[side]) == rook {
					want = text
				}
				check(t, text+", a right to "+strconv.Itoa(n), p, want)
			}
		}
	})
}

// Rooks stand on both sides of the king, but each right names the one on the wrong side, or the king's own file.
func TestRightsOnTheWrongSide(t *testing.T) {
	for _, x := range []struct{ rights, want string }{
		{"ah", ""},
		{"aa", "e1a1"},
		{"hh", "e1h1"},
		{"ee", ""},
		{"ea", "e1a1"},
		{"he", "e1h1"},
	} {
		for _, v := range castling {
			check(t, x.rights, placed(v, "Ke1 Ra1 Rh1 ke8", x.rights), x.want)
		}
	}
}
