package after_test

import (
	"strconv"
	"testing"

	"kibitzer/after"
	"kibitzer/api"
	"kibitzer/rules"
)

// P16.2: where pieces go, and what they take.

// quiet are the variants in which a take does nothing besides.
var quiet = []uint8{0, 1, 4, 5, 6, 7, 8}

// castling are the variants that castle.
var castling = []uint8{0, 1, 2, 3, 5, 6, 7}

func TestExamples(t *testing.T) {
	p, _ := rules.Start(api.Standard)
	want := p
	want.Board[at("e2")], want.Board[at("e4")] = 0, api.Pawn
	want.Turn = api.Black
	if got, ok := after.Move(p, move("e2e4")); !ok || got != want {
		t.Errorf("e2e4: %+v, %v", got, ok)
	}
	p = turned(placed(api.Standard, "pe4 Pd2"))
	want = turned(placed(api.Standard, "pe4 Pd4 =d3"))
	want.Turn, want.Full = api.White, 2
	if got, ok := after.Move(p, move("d7d5")); !ok || got != want || got.Passing != int8(at("d6")) {
		t.Errorf("d7d5: %+v, %v", got, ok)
	}
	behind(t, castling, "Ke1 Rh1 >h1", "e1*h1", "Kg1 Rf1")
	behind(t, []uint8{api.Atomic}, "Qd1 pd7 ke8 bc8 pc7", "d1d7", "pc7")
	checkRefused(t, "e2e5", placed(api.Standard, "Pe2"), move("e2e5"))
}

func TestPlainMoves(t *testing.T) {
	for _, x := range []struct{ before, move, behind string }{
		{"Na1 Pb1 pc1", "a1b3", "Nb3 Pb1 pc1"},
		{"Ba1 Pa2 pg8", "a1h8", "Bh8 Pa2 pg8"},
		{"Rh1 pa8", "h1h8", "Rh8 pa8"},
		{"Qd4 kd8", "d4a7", "Qa7 kd8"},
		{"Ke4 kd8", "e4d5", "Kd5 kd8"},
		{"Pe2 pd8", "e2e3", "Pe3 pd8"},
		{"Pe2 pd8", "e2e4", "Pe4 pd8"},
		{"Pe6 pd8", "e6e7", "Pe7 pd8"},
	} {
		behind(t, variants, x.before, x.move, x.behind)
		// What is passing isn't any more, whoever goes there.
		if x.before[0] != 'P' {
			behind(t, variants, x.before+" ="+x.move[2:], x.move, x.behind)
		}
	}
	behind(t, variants, "Pe5 =e6", "e5e6", "Pe6")
}

func TestTakes(t *testing.T) {
	for _, x := range []struct{ before, move, behind string }{
		{"Na1 bb3", "a1b3", "Nb3"},
		{"Ba1 qh8 nh7", "a1h8", "Bh8 nh7"},
		{"Rh1 rh8 Kg8", "h1h8", "Rh8 Kg8"},
		{"Qd4 pa7 pb7", "d4a7", "Qa7 pb7"},
		{"Pe4 nd5 bf5", "e4d5", "Pd5 bf5"},
		{"Pe4 nd5 bf5", "e4f5", "Pf5 nd5"},
		{"Pe4 kd5", "e4d5", "Pd5"},
		{"Pe2 rd3 =f3", "e2d3", "Pd3"},
	} {
		behind(t, quiet, x.before, x.move, x.behind)
	}
	for _, v := range quiet {
		for kind := api.Pawn; kind <= api.King; kind++ {
			p, want := placed(v, "Kd4 pa2 Na3"), placed(v, "Ke5 pa2 Na3")
			p.Board[at("e5")] = 8 + kind
			check(t, rules.Name(v)+": a king takes", p, "d4e5", want)
		}
	}
}

func TestTakesInPassing(t *testing.T) {
	for _, x := range []struct{ before, move, behind string }{
		{"Pe5 pd5 =d6", "e5d6", "Pd6"},
		{"Pe5 pf5 pd5 =f6", "e5f6", "Pf6 pd5"},
		{"Pa5 pb5 =b6", "a5b6", "Pb6"},
		{"Ph5 pg5 =g6 pa5", "h5g6", "Pg6 pa5"},
		// Nothing stands behind the passing square, or something else.
		{"Pe5 =d6 pf5", "e5d6", "Pd6 pf5"},
		{"Pe5 nd5 =d6", "e5d6", "Pd6"},
		{"Pe5 kd5 =d6", "e5d6", "Pd6"},
		{"Pe5 Nd5 =d6", "e5d6", "Pd6"},
		{"Pe5 Pd5 =d6", "e5d6", "Pd6"},
		{"Pe5 Kd5 =d6", "e5d6", "Pd6"},
		// What stands on the passing square is taken, and what stands behind it stays.
		{"Pe5 nd6 pd5 =d6", "e5d6", "Pd6 pd5"},
		{"Pe5 pd5 =d6", "e5e6", "Pe6 pd5"},
		{"Ph2 =g3 Ng2", "h2g3", "Pg3"},
	} {
		behind(t, quiet, x.before, x.move, x.behind)
	}
	// A number that is no piece stands for nothing, and is gone like what would be taken there.
	for _, number := range strangers {
		p := placed(api.Standard, "Pe5 =d6")
		p.Board[at("d5")] = number
		check(t, "behind the passing square "+strconv.Itoa(int(number)), p, "e5d6", placed(api.Standard, "Pd6"))
	}
	// Others than pawns take nothing there.
	behind(t, variants, "Ke5 pd5 =d6", "e5d6", "Kd6 pd5")
	behind(t, variants, "Qa3 pd5 =d6", "a3d6", "Qd6 pd5")
}

func TestPromotions(t *testing.T) {
	for _, v := range []uint8{0, 1, 4, 5, 6, 7} {
		for _, kind := range rules.Promotes(v) {
			letter := "?nbrqk"[kind-1 : kind]
			p := placed(v, "Pe7 nd8 rf8 Pe6")
			want := placed(v, "nd8 rf8 Pe6")
			want.Board[at("e8")] = kind
			check(t, rules.Name(v), p, "e7e8"+letter, want)
			want = placed(v, "rf8 Pe6")
			want.Board[at("d8")] = kind
			check(t, rules.Name(v), p, "e7d8"+letter, want)
			want = placed(v, "nd8 Pe6")
			want.Board[at("f8")] = kind
			check(t, rules.Name(v), p, "e7f8"+letter, want)
		}
	}
	behind(t, []uint8{2}, "Pe7 nd8", "e7e8r", "Re8 nd8 ~e8")
	behind(t, []uint8{3}, "Pe7 nd8", "e7e8r", "Re8 nd8")
}

func TestCastlings(t *testing.T) {
	for _, x := range []struct{ before, move, behind string }{
		{"Ke1 Ra1 Rh1 >h1 <a1", "e1*h1", "Kg1 Rf1 Ra1"},
		{"Ke1 Ra1 Rh1 >h1 <a1", "e1*a1", "Kc1 Rd1 Rh1"},
		{"Ke1 Ra1 Rh1 <a1 ke8 rh8 ra8 >h8 <a8", "e1*a1", "Kc1 Rd1 Rh1 ke8 rh8 ra8 >h8 <a8"},
		{"Ke1 Rh1 >h1 =d6 pd5", "e1*h1", "Kg1 Rf1 pd5"},
		// Files of Chess960, which no variant is asked for by layer 14.
		{"Kf1 Rb1 Rg1 >g1 <b1", "f1*g1", "Kg1 Rf1 Rb1"},
		{"Kf1 Rb1 Rg1 >g1 <b1", "f1*b1", "Kc1 Rd1 Rg1"},
		{"Kg1 Rh1 Ra1 >h1", "g1*h1", "Kg1 Rf1 Ra1"},
		{"Kb1 Ra1 Rh1 <a1", "b1*a1", "Kc1 Rd1 Rh1"},
		{"Kd1 Rc1 Ra1 <c1", "d1*c1", "Kc1 Rd1 Ra1"},
		{"Kc1 Rb1 <b1", "c1*b1", "Kc1 Rd1"},
		{"Ke1 Rf1 >f1", "e1*f1", "Kg1 Rf1"},
		{"Ke1 Rd1 <d1", "e1*d1", "Kc1 Rd1"},
		{"Kb1 Rc1 Ra1 >c1 <a1", "b1*c1", "Kg1 Rf1 Ra1"},
		{"Ka1 Rb1 >b1", "a1*b1", "Kg1 Rf1"},
		{"Kh1 Rg1 <g1", "h1*g1", "Kc1 Rd1"},
	} {
		behind(t, castling, x.before, x.move, x.behind)
	}
}

func TestDrops(t *testing.T) {
	const crowd = "Ke1 ke8 Pa2 pa7 "
	for _, letter := range []string{"P", "N", "B", "R", "Q"} {
		for _, square := range []string{"a3", "e4", "h6", "b7", "g2"} {
			dropped := letter + "@" + square
			behind(t, []uint8{api.Crazyhouse}, crowd+"@P @N @B @R @Q @"+letter+" @q =b3", dropped, crowd+letter+square+" @P @N @B @R @Q @q")
		}
		if letter != "P" {
			behind(t, []uint8{api.Crazyhouse}, crowd+"@"+letter, letter+"@a1", crowd+letter+"a1")
			behind(t, []uint8{api.Crazyhouse}, crowd+"@"+letter, letter+"@h8", crowd+letter+"h8")
		}
	}
	// A mark where nothing stood stays what it is.
	behind(t, []uint8{api.Crazyhouse}, crowd+"@N ~c3 ~a2 ~d5", "N@c3", crowd+"Nc3 ~c3 ~a2 ~d5")
	for _, number := range strangers {
		p := placed(api.Crazyhouse, crowd+"@Q")
		p.Board[at("e4")] = number
		check(t, "a drop on "+strconv.Itoa(int(number)), p, "Q@e4", placed(api.Crazyhouse, crowd+"Qe4"))
	}
}

func TestPositionsOfAllSorts(t *testing.T) {
	told := 0
	for i, p := range mixed(9000) {
		told += checkAll(t, strconv.Itoa(i), p)
	}
	if told < 200000 {
		t.Errorf("%d moves are too few to tell much", told)
	}
}

func TestGamesOfAllSorts(t *testing.T) {
	told := 0
	for i, p := range played(90, 80) {
		told += checkAll(t, strconv.Itoa(i), p)
	}
	if told < 100000 {
		t.Errorf("%d moves are too few to tell much", told)
	}
}

func TestFirstPositionsOfChess960(t *testing.T) {
	for n := range 960 {
		p, _ := rules.Start960(n)
		checkAll(t, strconv.Itoa(n), p)
		for s := range p.Board {
			if p.Board[s]&7 != api.King && p.Board[s]&7 != api.Rook {
				p.Board[s] = 0
			}
		}
		checkAll(t, strconv.Itoa(n)+", kings and rooks alone", p)
		checkAll(t, strconv.Itoa(n)+", kings and rooks alone, turned", turned(p))
	}
}
