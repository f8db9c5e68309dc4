package after_test

import (
	"strconv"
	"testing"

	"kibitzer/api"
	"kibitzer/rules"
)

// P16.2: pockets and marks of Crazyhouse

var crazyhouse = []uint8{api.Crazyhouse}

func TestWhatIsTakenIsKept(t *testing.T) {
	const crowd = "Ke1 Nb5 Ph2 "
	for _, letter := range []string{"p", "n", "b", "r", "q"} {
		own := string(letter[0] - 'a' + 'A')
		behind(t, crazyhouse, crowd+letter+"d6", "b5d6", "Ke1 Nd6 Ph2 @"+own)
		behind(t, crazyhouse, crowd+letter+"d6 @P @N @N @B @R @Q @p @q", "b5d6", "Ke1 Nd6 Ph2 @P @N @N @B @R @Q @p @q @"+own)
		behind(t, crazyhouse, crowd+letter+"d6 ~d6 @Q @q", "b5d6", "Ke1 Nd6 Ph2 @P @Q @q")
	}
	behind(t, crazyhouse, crowd+"kd6", "b5d6", "Ke1 Nd6 Ph2")
	behind(t, crazyhouse, crowd+"kd6 ~d6", "b5d6", "Ke1 Nd6 Ph2 @P")
	behind(t, crazyhouse, crowd+"nd6", "b5c7", "Ke1 Nc7 Ph2 nd6")
}

func TestNothingIsKeptElsewhere(t *testing.T) {
	for _, v := range quiet {
		if v == api.Crazyhouse {
			continue
		}
		const marks = " ~b5 ~d6 ~h4 @P @q"
		behind(t, []uint8{v}, "Nb5 qd6"+marks, "b5d6", "Nd6"+marks)
		behind(t, []uint8{v}, "Pe5 pd5 =d6 ~d5"+marks, "e5d6", "Pd6 ~d5"+marks)
		if rules.Castles(v) {
			behind(t, []uint8{v}, "Ke1 Rh1 >h1 ~h1 ~e1"+marks, "e1*h1", "Kg1 Rf1 ~h1 ~e1"+marks)
		}
	}
	behind(t, []uint8{api.Atomic}, "Nb5 qd6 ~b5 ~d6 @P", "b5d6", "~b5 ~d6 @P")
	behind(t, []uint8{api.Standard}, "Pe7 ~e7 ~a8", "e7e8q", "Qe8 ~e7 ~a8")
}

// A pocket that is full of a kind stays as it is; the other kinds, and the other color's, do, too.
func TestFullPockets(t *testing.T) {
	for _, n := range []uint8{0, 1, 127, 128, 254, 255} {
		for _, marked := range []bool{false, true} {
			for kind := api.Pawn; kind <= api.King; kind++ {
				p, want := placed(api.Crazyhouse, "Ke1 Nb5"), placed(api.Crazyhouse, "Ke1 Nd6")
				p.Board[at("d6")] = 8 + kind
				for i := range 6 {
					p.Pockets[0][i], p.Pockets[1][i] = n, n
				}
				want.Pockets = p.Pockets
				gets := kind
				if marked {
					p.Promoted, gets = 1<<at("d6"), api.Pawn
				}
				if gets != api.King && n < 255 {
					want.Pockets[0][gets]++
				}
				check(t, strconv.Itoa(int(n))+" of each kind", p, "b5d6", want)
			}
		}
	}
}

func TestKeptInPassing(t *testing.T) {
	for _, x := range []struct{ before, behind string }{
		{"Pe5 pd5 =d6", "Pd6 @P"},
		{"Pe5 pd5 =d6 ~d5", "Pd6 @P"},
		{"Pe5 qd5 =d6", "Pd6 @Q"},
		{"Pe5 qd5 =d6 ~d5", "Pd6 @P"},
		// A piece of one's own comes into one's own pocket.
		{"Pe5 Rd5 =d6", "Pd6 @R"},
		{"Pe5 Rd5 =d6 ~d5", "Pd6 @P"},
		{"Pe5 Kd5 =d6", "Pd6"},
		{"Pe5 kd5 =d6", "Pd6"},
		// Of nothing nothing does, marked or not; the square's mark is gone.
		{"Pe5 =d6", "Pd6"},
		{"Pe5 =d6 ~d5", "Pd6"},
		{"Pe5 =d6 ~d5 ~c5 ~f5", "Pd6 ~c5 ~f5"},
		{"Pe5 bd6 qd5 =d6 ~d5", "Pd6 qd5 ~d5 @B"},
	} {
		behind(t, crazyhouse, x.before+" Ka1 ka8 @n", "e5d6", x.behind+" Ka1 ka8 @n")
	}
	for _, number := range strangers {
		p := placed(api.Crazyhouse, "Pe5 =d6 ~d5")
		p.Board[at("d5")] = number
		check(t, "behind the passing square "+strconv.Itoa(int(number)), p, "e5d6", placed(api.Crazyhouse, "Pd6"))
	}
}

func TestMarks(t *testing.T) {
	for _, x := range []struct{ before, move, behind string }{
		// A mark goes with its piece.
		{"Qd4 ~d4 ~h8", "d4a7", "Qa7 ~a7 ~h8"},
		{"Qd4 ~d4 pa7", "d4a7", "Qa7 ~a7 @P"},
		{"Qd4 ~d4 ra7 ~a7", "d4a7", "Qa7 ~a7 @P"},
		{"Qd4 ra7 ~a7 ~a1", "d4a7", "Qa7 ~a1 @P"},
		{"Qd4 ra7", "d4a7", "Qa7 @R"},
		{"Qd4", "d4a7", "Qa7"},
		// What stood on no piece's square stays, but where something is taken.
		{"Qd4 ~a7", "d4a7", "Qa7 ~a7"},
		{"Qd4 ~a7 ~d4", "d4a7", "Qa7 ~a7"},
		{"Qd4 ~c5 ~b6", "d4a7", "Qa7 ~c5 ~b6"},
		// Who becomes something is marked.
		{"Pe7 nd8", "e7e8q", "Qe8 nd8 ~e8"},
		{"Pe7 nd8", "e7d8n", "Nd8 ~d8 @N"},
		{"Pe7 nd8 ~d8", "e7d8b", "Bd8 ~d8 @P"},
		{"Pe7 ~e7", "e7e8r", "Re8 ~e8"},
		{"Pe6 ~e6", "e6e7", "Pe7 ~e7"},
		{"Ke6 ~e6", "e6e7", "Ke7 ~e7"},
		{"Pe5 pd5 =d6 ~e5", "e5d6", "Pd6 ~d6 @P"},
		{"Pe2 ~e3 ~e4", "e2e4", "Pe4 ~e3 ~e4"},
	} {
		behind(t, crazyhouse, x.before, x.move, x.behind)
	}
}

func TestMarksOfCastlings(t *testing.T) {
	for _, x := range []struct{ before, move, behind string }{
		{"Ke1 Rh1 Ra1 ~h1 ~a1 >h1 <a1", "e1*h1", "Kg1 Rf1 Ra1 ~f1 ~a1"},
		{"Ke1 Rh1 Ra1 ~h1 ~a1 >h1 <a1", "e1*a1", "Kc1 Rd1 Rh1 ~d1 ~h1"},
		{"Ke1 Rh1 ~a8 >h1", "e1*h1", "Kg1 Rf1 ~a8"},
		// What is marked beside the rook's square stays.
		{"Ke1 Rh1 ~e1 >h1", "e1*h1", "Kg1 Rf1 ~e1"},
		{"Ke1 Rh1 ~e1 ~f1 ~g1 >h1", "e1*h1", "Kg1 Rf1 ~e1 ~f1 ~g1"},
		{"Ke1 Rh1 ~e1 ~f1 ~g1 ~h1 >h1", "e1*h1", "Kg1 Rf1 ~e1 ~f1 ~g1"},
		{"Kb1 Rf1 ~f1 ~b1 >f1", "b1*f1", "Kg1 Rf1 ~f1 ~b1"},
		{"Kf1 Rg1 ~g1 >g1", "f1*g1", "Kg1 Rf1 ~f1"},
		{"Kf1 Rg1 ~f1 >g1", "f1*g1", "Kg1 Rf1 ~f1"},
		{"Kc1 Rb1 ~b1 <b1", "c1*b1", "Kc1 Rd1 ~d1"},
	} {
		behind(t, crazyhouse, x.before, x.move, x.behind)
	}
}
