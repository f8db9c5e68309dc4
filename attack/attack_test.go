package attack_test

import (
	"strconv"
	"testing"

	"kibitzer/api"
	"kibitzer/attack"
)

// reaches are what each kind attacks on a board where nothing else stands: on an inner square, at each edge, in each corner.
var reaches = []struct{ piece, want string }{
	{"Nd4", "c2 e2 b3 f3 b5 f5 c6 e6"},
	{"Na4", "b2 c3 c5 b6"},
	{"Nh5", "g3 f4 f6 g7"},
	{"Nd1", "b2 f2 c3 e3"},
	{"Ne8", "d6 f6 c7 g7"},
	{"Nb7", "a5 c5 d6 d8"},
	{"Na1", "c2 b3"},
	{"Nh1", "f2 g3"},
	{"Na8", "b6 c7"},
	{"Nh8", "g6 f7"},
	{"Kd4", "c3 d3 e3 c4 e4 c5 d5 e5"},
	{"Ka4", "a3 b3 b4 a5 b5"},
	{"Kh5", "g4 h4 g5 g6 h6"},
	{"Kd1", "c1 e1 c2 d2 e2"},
	{"Ke8", "d7 e7 f7 d8 f8"},
	{"Ka1", "b1 a2 b2"},
	{"Kh1", "g1 g2 h2"},
	{"Ka8", "a7 b7 b8"},
	{"Kh8", "g7 h7 g8"},
	{"Bd4", "a1 g1 b2 f2 c3 e3 c5 e5 b6 f6 a7 g7 h8"},
	{"Ba4", "d1 c2 b3 b5 c6 d7 e8"},
	{"Bd1", "c2 e2 b3 f3 a4 g4 h5"},
	{"Ba1", "b2 c3 d4 e5 f6 g7 h8"},
	{"Bh1", "g2 f3 e4 d5 c6 b7 a8"},
	{"Rd4", "d1 d2 d3 a4 b4 c4 e4 f4 g4 h4 d5 d6 d7 d8"},
	{"Rh5", "h1 h2 h3 h4 a5 b5 c5 d5 e5 f5 g5 h6 h7 h8"},
	{"Re8", "e1 e2 e3 e4 e5 e6 e7 a8 b8 c8 d8 f8 g8 h8"},
	{"Ra8", "a1 a2 a3 a4 a5 a6 a7 b8 c8 d8 e8 f8 g8 h8"},
	{"Rh8", "h1 h2 h3 h4 h5 h6 h7 a8 b8 c8 d8 e8 f8 g8"},
	{"Qd4", "a1 d1 g1 b2 d2 f2 c3 d3 e3 a4 b4 c4 e4 f4 g4 h4 c5 d5 e5 b6 d6 f6 a7 d7 g7 d8 h8"},
	{"Qa8", "a1 h1 a2 g2 a3 f3 a4 e4 a5 d5 a6 c6 a7 b7 b8 c8 d8 e8 f8 g8 h8"},
	{"Pd4", "c5 e5"},
	{"Pa4", "b5"},
	{"Ph4", "g5"},
	{"Pa1", "b2"},
	{"Pd1", "c2 e2"},
	{"Ph1", "g2"},
	{"Pa7", "b8"},
	{"Ph7", "g8"},
	{"Pa8", ""},
	{"Pd8", ""},
	{"Ph8", ""},
	{"pd4", "c3 e3"},
	{"pa4", "b3"},
	{"ph4", "g3"},
	{"pa8", "b7"},
	{"pd8", "c7 e7"},
	{"ph8", "g7"},
	{"pa2", "b1"},
	{"ph2", "g1"},
	{"pa1", ""},
	{"pd1", ""},
	{"ph1", ""},
}

// alsoInBlack are the pieces of a reach: the one that it names and, but for pawns, the black one.
func alsoInBlack(name string) []uint8 {
	l := []uint8{piece(name[0])}
	if l[0] != api.Pawn && l[0] != 8+api.Pawn {
		l = append(l, 8+l[0])
	}
	return l
}

// crowds are what may stand on the squares attacked: nothing, pieces of both colors, numbers that are no piece.
var crowds = []uint8{0, 1, 2, 3, 4, 5, 6, 9, 10, 11, 12, 13, 14, 7, 8, 15, 22, 137, 255}

// P8.1, P8.2

func TestReaches(t *testing.T) {
	for _, c := range reaches {
		for _, man := range alsoInBlack(c.piece) {
			var p api.Position
			from := at(c.piece[1:])
			p.Board[from] = man
			check(t, "From "+c.piece, p, attack.From(p, from), set(c.want))
			for to := range 64 {
				checkReach(t, c.piece, p, from, to, set(c.want)>>to&1 == 1)
			}
		}
	}
}

// checkReach asks By and On of a board with one piece, for both colors.
func checkReach(t *testing.T, name string, p api.Position, from, to int, reached bool) {
	t.Helper()
	for color := range uint8(2) {
		want := uint64(0)
		if c, _, _ := colorAndKind(p.Board[from]); reached && c == color {
			want = 1 << from
		}
		check(t, name+": By "+told(1<<to), p, attack.By(p, to, color), want)
		checkBool(t, name+": On "+told(1<<to), p, attack.On(p, to, color), want != 0)
	}
}

func TestWhateverStandsThere(t *testing.T) {
	for _, c := range reaches {
		for _, man := range alsoInBlack(c.piece) {
			from := at(c.piece[1:])
			color, _, _ := colorAndKind(man)
			for to := range 64 {
				if set(c.want)>>to&1 == 0 {
					continue
				}
				for _, there := range crowds {
					var p api.Position
					p.Board[from], p.Board[to] = man, there
					checkBool(t, c.piece+": From has "+told(1<<to), p, attack.From(p, from)>>to&1 == 1, true)
					checkBool(t, c.piece+": By has it "+told(1<<to), p, attack.By(p, to, color)>>from&1 == 1, true)
					checkBool(t, c.piece+": On "+told(1<<to), p, attack.On(p, to, color), true)
				}
			}
		}
	}
}

func TestLinesEndWhereSomethingStands(t *testing.T) {
	for _, c := range []struct{ pieces, from, want string }{
		{"Rd4 Pd6 pb4 nd2 Qg4", "d4", "d2 d3 b4 c4 e4 f4 g4 d5 d6"},
		{"rd4 Pd6 pb4 nd2 Qg4", "d4", "d2 d3 b4 c4 e4 f4 g4 d5 d6"},
		{"Bd4 Pf6 pb6 kb2 Kf2", "d4", "b2 f2 c3 e3 c5 e5 b6 f6"},
		{"bd4 Pf6 pb6 kb2 Kf2", "d4", "b2 f2 c3 e3 c5 e5 b6 f6"},
		{"Qd4 Pd5 pe5 ne4 Ke3 kd3 qc3 Rc4 rc5", "d4", "c3 d3 e3 c4 e4 c5 d5 e5"},
		{"qa1 Ra3 rc1 bh8", "a1", "b1 c1 a2 b2 a3 c3 d4 e5 f6 g7 h8"},
		{"Ra1 Ra2 Rb1", "a1", "b1 a2"},
		{"Nd4 Pc3 pd3 Pe3 pc4 Pe4 pc5 Pd5 pe5", "d4", "c2 e2 b3 f3 b5 f5 c6 e6"},
		{"pd4 Pd3 pc3", "d4", "c3 e3"},
		{"Pd4 pd5 Pc5", "d4", "c5 e5"},
	} {
		p := placed(c.pieces)
		check(t, c.pieces+": From "+c.from, p, attack.From(p, at(c.from)), set(c.want))
	}
}

func TestLinesEndAtEachDistance(t *testing.T) {
	for _, man := range []uint8{3, 4, 5, 11, 12, 13} {
		for from := range 64 {
			for on := range 64 {
				if on == from {
					continue
				}
				var p api.Position
				p.Board[from], p.Board[on] = man, men[(from+on)%len(men)]
				check(t, "From "+told(1<<from), p, attack.From(p, from), plainFrom(p, from))
			}
		}
	}
}

func TestLinesGoThroughStrangers(t *testing.T) {
	for _, stranger := range strangers {
		p := placed("Qa1")
		p.Board[at("a2")], p.Board[at("b1")], p.Board[at("d4")] = stranger, stranger, stranger
		check(t, "From a1", p, attack.From(p, 0), set("b1 c1 d1 e1 f1 g1 h1 a2 a3 a4 a5 a6 a7 a8 b2 c3 d4 e5 f6 g7 h8"))
		check(t, "By a8", p, attack.By(p, at("a8"), api.White), set("a1"))
		check(t, "By h8", p, attack.By(p, at("h8"), api.White), set("a1"))
	}
}

func TestExamples(t *testing.T) {
	p := mixed()[api.Standard]
	check(t, "By f3", p, attack.By(p, at("f3"), api.White), set("e2 g2 g1"))
	check(t, "By f3", p, attack.By(p, at("f3"), api.Black), 0)
	check(t, "By f6", p, attack.By(p, at("f6"), api.Black), set("e7 g7 g8"))
	check(t, "By d2", p, attack.By(p, at("d2"), api.White), set("b1 c1 d1 e1"))
	checkBool(t, "On e4", p, attack.On(p, at("e4"), api.White), false)
	checkBool(t, "On f3", p, attack.On(p, at("f3"), api.White), true)
	checkBool(t, "On f3", p, attack.On(p, at("f3"), api.Black), false)
	check(t, "From a1", p, attack.From(p, 0), set("b1 a2"))
	check(t, "From b1", p, attack.From(p, 1), set("a3 c3 d2"))
}

func TestByOfSeveral(t *testing.T) {
	p := placed("Pc3 Pe3 Nb5 Nf3 Bh8 Ba7 Rd1 Rd2 Qg4 Kd3 pc5 pe5 kd6 qd8 nc2")
	check(t, "By d4, White", p, attack.By(p, at("d4"), api.White), set("c3 e3 b5 f3 g4 d3"))
	check(t, "By d4, Black", p, attack.By(p, at("d4"), api.Black), set("c5 e5 c2"))
	p = placed("Pc3 Pe3 Nb5 Nf3 Bh8 Bb6 Rd1 Qg4 Kc4 ne2 nc6")
	check(t, "By d4, White", p, attack.By(p, at("d4"), api.White), set("c3 e3 b5 f3 h8 b6 d1 g4 c4"))
	check(t, "By d4, Black", p, attack.By(p, at("d4"), api.Black), set("e2 c6"))
}

func TestPawnsEverywhere(t *testing.T) {
	for from := range 64 {
		for color := range uint8(2) {
			var p api.Position
			p.Board[from] = 8*color + api.Pawn
			check(t, "From "+told(1<<from), p, attack.From(p, from), plainFrom(p, from))
			for to := range 64 {
				check(t, "By "+told(1<<to), p, attack.By(p, to, color), plainBy(p, to, color))
				check(t, "By the other color "+told(1<<to), p, attack.By(p, to, 1-color), 0)
			}
		}
	}
}

func TestNothingFromWhereNothingStands(t *testing.T) {
	for s := range 64 {
		p := api.Position{}
		check(t, "From an empty square", p, attack.From(p, s), 0)
		for number := range 256 {
			if _, _, ok := colorAndKind(uint8(number)); ok {
				continue
			}
			p.Board[s] = uint8(number)
			check(t, "From "+strconv.Itoa(number), p, attack.From(p, s), 0)
		}
	}
}

func TestStrangersAttackNothing(t *testing.T) {
	for number := range 256 {
		if _, _, ok := colorAndKind(uint8(number)); ok {
			continue
		}
		var p api.Position
		for s := range p.Board {
			p.Board[s] = uint8(number)
		}
		for s := range 64 {
			for color := range uint8(3) {
				check(t, "By "+told(1<<s), p, attack.By(p, s, color), 0)
				checkBool(t, "On "+told(1<<s), p, attack.On(p, s, color), false)
			}
		}
	}
}

func TestNoSquare(t *testing.T) {
	for _, p := range mixed() {
		for _, s := range noSquares {
			name := strconv.Itoa(s)
			check(t, "From "+name, p, attack.From(p, s), 0)
			for color := range uint8(4) {
				check(t, "By "+name, p, attack.By(p, s, color), 0)
				checkBool(t, "On "+name, p, attack.On(p, s, color), false)
			}
		}
	}
}

func TestNoColor(t *testing.T) {
	for _, p := range mixed() {
		for _, color := range noColors {
			for s := range 64 {
				check(t, "By "+told(1<<s), p, attack.By(p, s, color), 0)
				checkBool(t, "On "+told(1<<s), p, attack.On(p, s, color), false)
			}
		}
	}
}

func TestWholePositions(t *testing.T) {
	for _, p := range mixed() {
		for s := range 64 {
			check(t, "From "+told(1<<s), p, attack.From(p, s), plainFrom(p, s))
			for color := range uint8(2) {
				want := plainBy(p, s, color)
				check(t, "By "+told(1<<s), p, attack.By(p, s, color), want)
				checkBool(t, "On "+told(1<<s), p, attack.On(p, s, color), want != 0)
			}
		}
	}
}

// P8.4

func TestBothWays(t *testing.T) {
	for _, p := range mixed() {
		for to := range 64 {
			for color := range uint8(2) {
				checkBothWays(t, p, to, color)
			}
		}
	}
}

func checkBothWays(t *testing.T, p api.Position, to int, color uint8) {
	t.Helper()
	by := attack.By(p, to, color)
	for from := range 64 {
		c, _, ok := colorAndKind(p.Board[from])
		want := ok && c == color && attack.From(p, from)>>to&1 == 1
		checkBool(t, told(1<<from)+" in By "+told(1<<to), p, by>>from&1 == 1, want)
	}
	checkBool(t, "On "+told(1<<to), p, attack.On(p, to, color), by != 0)
}

func TestNothingAttacksItsOwnSquare(t *testing.T) {
	for _, p := range mixed() {
		for s := range 64 {
			mine := attack.From(p, s) | attack.By(p, s, api.White) | attack.By(p, s, api.Black)
			checkBool(t, told(1<<s)+" attacks itself", p, mine>>s&1 == 1, false)
		}
	}
}

// P8.5

func TestLessIsSeenWithOneMore(t *testing.T) {
	for i, p := range mixed() {
		for s := range 64 {
			if _, _, ok := colorAndKind(p.Board[s]); ok {
				continue
			}
			more := p
			more.Board[s] = men[(i+s)%len(men)]
			checkLess(t, p, more, s)
		}
	}
}

// checkLess holds what is attacked in both positions against each other, of which the second one has a piece more on the square.
func checkLess(t *testing.T, p, more api.Position, s int) {
	t.Helper()
	for from := range 64 {
		_, kind, _ := colorAndKind(p.Board[from])
		before, now := attack.From(p, from), attack.From(more, from)
		switch {
		case from == s:
		case kind == api.Bishop || kind == api.Rook || kind == api.Queen:
			check(t, told(1<<from)+" with one more on "+told(1<<s)+": seen anew", more, now&^before, 0)
		default:
			check(t, told(1<<from)+" with one more on "+told(1<<s), more, now, before)
		}
	}
}
