package valid_test

import (
	"fmt"
	"slices"
	"testing"

	"kibitzer/api"
)

// P12.1: ErrKings

// Squares for kings of which none attacks one of the other color.
var (
	whiteSquares = []int{0, 2, 3, 4, 7, 8, 12, 15, 21}
	blackSquares = []int{63, 61, 60, 59, 56, 55, 51, 48, 42}
)

// kingsMayBe is how many kings the color has, whose turn it is, or isn't.
func kingsMayBe(v uint8, color, turn uint8, n int) bool {
	switch v {
	case api.Antichess:
		return true
	case api.Atomic:
		return n == 1 || n == 0 && color == turn
	case api.Horde:
		if color == api.White {
			return n == 0
		}
	}
	return n == 1
}

func TestNumbersOfKings(t *testing.T) {
	for v := range api.Variants {
		for turn := range uint8(2) {
			for white := range len(whiteSquares) + 1 {
				for black := range len(blackSquares) + 1 {
					p := placed(v, turn, "")
					for _, s := range whiteSquares[:white] {
						p.Board[s] = 6
					}
					for _, s := range blackSquares[:black] {
						p.Board[s] = 14
					}
					may := kingsMayBe(v, 0, turn, white) && kingsMayBe(v, 1, turn, black)
					check(t, fmt.Sprint(white, " and ", black, " kings"), p, when(!may, api.ErrKings))
				}
			}
		}
	}
}

// The pieces that are no kings count as none, whichever they are.
func TestNoKings(t *testing.T) {
	for v := range api.Variants {
		for turn := range uint8(2) {
			p := placed(v, turn, "Qd1 Rd4 Bf3 Nb6 qd8 rd7 ba5 ne5")
			check(t, "no kings", p, when(v != api.Antichess, api.ErrKings))
			p = with(p, "ke8 .d7")
			may := v == api.Antichess || v == api.Horde || v == api.Atomic && turn == api.White
			check(t, "no king of White's", p, when(!may, api.ErrKings))
			p = with(p, ".e8 Kh1")
			may = v == api.Antichess || v == api.Atomic && turn == api.Black
			check(t, "no king of Black's", p, when(!may, api.ErrKings))
		}
	}
}

// P12.1: ErrPawns

func TestPawnsOfEachRank(t *testing.T) {
	for v := range api.Variants {
		for turn := range uint8(2) {
			// Pawns attack neither White's king on rank 7 nor Black's on rank 0, wherever they stand.
			p := placed(v, turn, "Ka8 kh1")
			if v == api.Horde {
				p = placed(v, turn, "kh1")
			}
			for s := range 64 {
				if p.Board[s] != 0 {
					continue
				}
				for color := range uint8(2) {
					q := p
					q.Board[s] = 8*color + 1
					rank := s / 8
					wrong := v == api.Racing || rank == 7 || rank == 0 && !(v == api.Horde && color == api.White)
					check(t, fmt.Sprint("a pawn of ", color, " on ", s), q, when(wrong, api.ErrPawns))
				}
			}
		}
	}
}

// Where no pawn may stand all other pieces may.
func TestOthersOfFirstAndLastRank(t *testing.T) {
	for v := range api.Variants {
		for _, s := range []string{"a1", "c1", "f8", "h8"} {
			for _, letter := range "NBRQnbrq" {
				p := placed(v, api.White, "Ke4 kd6 Bf4")
				if v == api.Horde {
					p = placed(v, api.White, "kd6")
				}
				p = with(p, string(letter)+s)
				wrong := !plainCheck(p)
				check(t, string(letter)+s, p, when(wrong, api.ErrCheck))
			}
		}
	}
}

// P12.1: ErrPockets

func TestPocketsOfOthers(t *testing.T) {
	for _, p := range every() {
		if p.Variant == api.Crazyhouse {
			continue
		}
		for color := range 2 {
			for kind := range 6 {
				for _, n := range []uint8{1, 2, 128, 255} {
					q := p
					q.Pockets[color][kind] = n
					check(t, "something in a pocket", q, alone(api.ErrPockets))
				}
			}
		}
		for s := range 64 {
			q := p
			q.Promoted = 1 << s
			check(t, "a square of Promoted", q, alone(api.ErrPockets))
			q.Board[s] = 5
			checkPlainly(t, "a queen of Promoted", q)
		}
		p.Promoted = 1<<64 - 1
		check(t, "all squares of Promoted", p, alone(api.ErrPockets))
		p.Pockets[1][5] = 1
		check(t, "both", p, alone(api.ErrPockets))
	}
}

func TestKindsInPockets(t *testing.T) {
	for turn := range uint8(2) {
		for color := range 2 {
			for kind := range 6 {
				for _, n := range []uint8{1, 2, 10, 20} {
					p := quiet(api.Crazyhouse, turn)
					p.Pockets[color][kind] = n
					check(t, fmt.Sprint(n, " of the kind ", kind), p, when(kind == 0, api.ErrPockets))
				}
			}
		}
	}
}

// crowded is a position of Crazyhouse with two kings and so many pawns.
func crowded(turn uint8, pawns int) api.Position {
	p := placed(api.Crazyhouse, turn, "Ka8 kh1")
	for s := 8; s < 8+pawns; s++ {
		p.Board[s] = 1 + uint8(s%2)*8
	}
	return p
}

func TestMen(t *testing.T) {
	for turn := range uint8(2) {
		for pawns := range 49 {
			onBoard := pawns + 2
			p := crowded(turn, pawns)
			check(t, fmt.Sprint(onBoard, " men on the board"), p, when(onBoard > 32, api.ErrPockets))
			for color := range 2 {
				for kind := 1; kind < 6; kind++ {
					for _, held := range []int{29 - pawns, 30 - pawns, 31 - pawns, 32 - pawns} {
						if held < 0 {
							continue
						}
						q := p
						q.Pockets[color][kind] = uint8(held)
						check(t, fmt.Sprint(onBoard, " men on the board, ", held, " in a pocket"), q, when(onBoard+held > 32, api.ErrPockets))
					}
				}
			}
		}
	}
}

func TestMenInBothPockets(t *testing.T) {
	p := crowded(api.White, 10)
	p.Pockets = [2][6]uint8{{0, 2, 2, 2, 2, 2}, {0, 2, 2, 2, 2, 2}}
	check(t, "32 men", p, fine)
	for color := range 2 {
		for kind := 1; kind < 6; kind++ {
			q := p
			q.Pockets[color][kind]++
			check(t, "33 men", q, alone(api.ErrPockets))
		}
	}
}

// So many in pockets that one byte doesn't count them.
func TestVeryManyMen(t *testing.T) {
	for _, pockets := range [][2][6]uint8{
		{{0, 255}, {}},
		{{0, 255, 1}, {}},
		{{0, 254, 0, 0, 0, 0}, {0, 2, 0, 0, 0, 0}},
		{{0, 128, 0, 0, 0, 0}, {0, 0, 0, 0, 0, 128}},
		{{0, 255, 255, 255, 255, 255}, {0, 255, 255, 255, 255, 255}},
		{{0, 64, 64, 64, 64, 0}, {}},
		{{}, {0, 0, 255, 0, 0, 3}},
	} {
		for pawns := range 12 {
			p := crowded(api.Black, pawns)
			p.Pockets = pockets
			check(t, "very many men", p, alone(api.ErrPockets))
		}
	}
}

// Other variants count no men.
func TestMenOfOthers(t *testing.T) {
	for v := range api.Variants {
		if v == api.Crazyhouse || v == api.Racing {
			continue
		}
		for _, pawns := range []int{30, 31, 48} {
			p := crowded(api.White, pawns)
			p.Variant = v
			if v == api.Horde {
				p = with(p, "Pa7 .a8")
			}
			check(t, "many men", p, fine)
		}
	}
	p := placed(api.Racing, api.White, "Ka1 kh8 Bb1 bg8 Pa2")
	for s := range 64 {
		if p.Board[s] == 0 {
			p.Board[s] = 3
		}
	}
	checkPlainly(t, "many men", p)
}

func TestPromotedOnes(t *testing.T) {
	for turn := range uint8(2) {
		for s := range 64 {
			p := placed(api.Crazyhouse, turn, "Kd3 ke6")
			if p.Board[s] != 0 {
				continue
			}
			p.Promoted = 1 << s
			check(t, "nothing is marked", p, alone(api.ErrPockets))
			for _, n := range men {
				q := p
				q.Board[s] = n
				var want []api.Errno
				kind := n % 8
				want = append(want, when(kind == 6, api.ErrKings)...)
				want = append(want, when(kind == 1 && (s < 8 || s > 55), api.ErrPawns)...)
				want = append(want, when(kind == 1 || kind == 6, api.ErrPockets)...)
				want = append(want, when(!plainCheck(q), api.ErrCheck)...)
				check(t, fmt.Sprint("the piece ", n, " is marked on ", s), q, want)
			}
		}
	}
}

func TestOneWrongMarkOfMany(t *testing.T) {
	p := placed(api.Crazyhouse, api.White, "Kd2 kd7 Nb5 ng5 Ba3 bh3 Rc4 rg4 Qf1 qh8 Pa5 ph5")
	right := uint64(0)
	for _, s := range []string{"b5", "g5", "a3", "h3", "c4", "g4", "f1", "h8"} {
		right |= 1 << at(s)
	}
	p.Promoted = right
	check(t, "all that may be", p, fine)
	for s := range 64 {
		if right>>s&1 == 1 {
			continue
		}
		q := p
		q.Promoted |= 1 << s
		check(t, "one more", q, alone(api.ErrPockets))
		q.Promoted = 1 << s
		check(t, "that alone", q, alone(api.ErrPockets))
	}
}

// P12.1: ErrCheck

// checks are positions without pawns on their first and last ranks, and whether White's king, and Black's, is attacked in them; no kings are neighbours.
var checks = []struct {
	pieces       string
	white, black bool
}{
	{"Ke1 ke8", false, false},
	{"Ke1 ke8 ra1", true, false},
	{"Ke1 ke8 Ra8", false, true},
	{"Ke1 ke8 ra1 Ra8", true, true},
	{"Ke1 ke8 ra1 Bb1 Ra8 bb8", false, false},
	{"Ke1 ke8 nc2", true, false},
	{"Ke1 ke8 Nf6", false, true},
	{"Ke1 ke8 bh4", true, false},
	{"Ke1 ke8 Bh5", false, true},
	{"Ke1 ke8 qa5", true, false},
	{"Ke1 ke8 qe3 Ne2 Qe6 be7", false, false},
	{"Ke1 ke8 Qe3", false, true},
	{"Ke1 ke8 Qb8", false, true},
	{"Ke1 ke8 Nf3 Bd2 Re2 Qd1 nf6 bd7 re7 qd8", false, false},
	{"Ka8 kh1 Rb3 rc5", false, false},
	{"Kd4 kf4 Ng2", false, true},
	{"Kd4 kf4 ne2", true, false},
	{"Ka1 kc1 qh8 Qc8", true, true},
}

// checksByPawns are such with pawns.
var checksByPawns = []struct {
	pieces       string
	white, black bool
}{
	{"Ke1 ke8 pd2", true, false},
	{"Ke1 ke8 pf2", true, false},
	{"Ke1 ke8 pe2", false, false},
	{"Ke1 ke8 Pd7", false, true},
	{"Ke1 ke8 Pf7", false, true},
	{"Ke1 ke8 Pe7", false, false},
	{"Ke3 ke6 pd2 pf2 Pd7 Pf7", false, false},
	{"Ke3 ke6 pd4 Pf5", true, true},
	{"Ka4 kh5 ph6 Pa3", false, false},
}

func TestChecks(t *testing.T) {
	for v := range api.Variants {
		for turn := range uint8(2) {
			for i, c := range slices.Concat(checks, checksByPawns) {
				wrong := c.black
				if turn == api.Black {
					wrong = c.white && v != api.Horde
				}
				if v == api.Racing {
					wrong = c.white || c.black
				}
				byPawns := i >= len(checks)
				want := slices.Concat(
					when(v == api.Horde, api.ErrKings),
					when(v == api.Racing && byPawns, api.ErrPawns),
					when(wrong && v != api.Antichess, api.ErrCheck))
				check(t, c.pieces, placed(v, turn, c.pieces), want)
			}
		}
	}
}

func TestChecksOfHorde(t *testing.T) {
	for _, c := range []struct {
		pieces string
		black  bool
	}{
		{"ke8 Pd7", true},
		{"ke8 Pe7", false},
		{"ke8 Nf6", true},
		{"ke8 Qe2", true},
		{"ke8 Qe2 Pe4", false},
		{"ke8 ra1 qb1 Pc1", false},
		{"kc4 Pb3 Pd1", true},
		{"kc4 Pb1 Pc3 Pd1", false},
	} {
		check(t, c.pieces, placed(api.Horde, api.White, c.pieces), when(c.black, api.ErrCheck))
		check(t, c.pieces, placed(api.Horde, api.Black, c.pieces), fine)
	}
}

func TestNeighbouringKings(t *testing.T) {
	for v := range api.Variants {
		for turn := range uint8(2) {
			for _, near := range []string{"c3", "d3", "e3", "c4", "e4", "c5", "d5", "e5"} {
				p := placed(v, turn, "Kd4 k"+near)
				if v == api.Horde {
					check(t, near, p, slices.Concat(alone(api.ErrKings), when(turn == api.White, api.ErrCheck)))
					continue
				}
				check(t, near, p, when(v != api.Atomic && v != api.Antichess, api.ErrCheck))
				p = with(p, "Nb2 ng6")
				check(t, near, p, when(v != api.Atomic && v != api.Antichess, api.ErrCheck))
			}
		}
	}
}

func TestChecksOfAtomic(t *testing.T) {
	for _, c := range []struct {
		turn   uint8
		pieces string
		wrong  bool
	}{
		{api.White, "Ke1 ke8 Re5", true},
		{api.White, "Ke1 ke8 re5", false},
		{api.White, "Ke1 kb8 Rb5 re5", true},
		{api.Black, "Ke1 kb8 re5 Rb5", true},
		{api.Black, "Ke1 kb8 Rb5", false},
		// The kings are neighbours: no check is one.
		{api.White, "Ke4 kf5 Rf1 ra4", false},
		{api.Black, "Ke4 kf5 Rf1 ra4", false},
		// The king of who is to move is gone.
		{api.White, "ke8 Re5", false},
		{api.White, "ke8 Re5 Nf6 Qa4", false},
		{api.Black, "Ke1 re5", false},
		{api.Black, "Ke1 re5 pd2 bb4", false},
		{api.White, "ke8", false},
		{api.Black, "Ke1", false},
	} {
		check(t, c.pieces, placed(api.Atomic, c.turn, c.pieces), when(c.wrong, api.ErrCheck))
	}
	// The king of who is not to move is gone; then checks count.
	check(t, "who is to move", placed(api.Atomic, api.White, "Ke1 re5"), alone(api.ErrKings))
	check(t, "who is to move", placed(api.Atomic, api.Black, "ke8 Re5"), alone(api.ErrKings))
	// Two kings of who is not to move, in check or not.
	check(t, "two kings", placed(api.Atomic, api.White, "Ke1 ka7 ke8 Rb7"), []api.Errno{api.ErrKings, api.ErrCheck})
	check(t, "two kings", placed(api.Atomic, api.White, "Ke1 ka7 ke8 Re5"), alone(api.ErrKings))
}

func TestChecksOfRacing(t *testing.T) {
	for turn := range uint8(2) {
		for pieces, wrong := range map[string]bool{
			"Ka1 kh8":             false,
			"Ka1 kh8 Rg1 rb8":     false,
			"Ka1 kh8 ra5":         true,
			"Ka1 kh8 Rh5":         true,
			"Ka1 kh8 ra5 Rh5":     true,
			"Ka1 kh8 ra5 Na3":     false,
			"Ka1 kh8 bb2":         true,
			"Ka1 kh8 Ng6":         true,
			"Ka8 kh8 Nd4 qc1":     false,
			"Ka8 kh8 Nd4 qc1 re8": true,
		} {
			check(t, pieces, placed(api.Racing, turn, pieces), when(wrong, api.ErrCheck))
		}
	}
}
