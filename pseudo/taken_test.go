package pseudo_test

import (
	"strings"
	"testing"

	"kibitzer/api"
	"kibitzer/pseudo"
)

// P13.2

// checkTakes holds what each of the position's moves takes against these: in their order, each a move's text and the square of what it takes, or a point. Moves that aren't named take nothing.
func checkTakes(t *testing.T, what string, p api.Position, want string) {
	t.Helper()
	squares := map[string]int{}
	for _, x := range strings.Fields(want) {
		move, square, _ := strings.Cut(x, ":")
		squares[move] = at(square)
	}
	for _, m := range pseudo.List(p) {
		square, ok := squares[text(m)]
		if !ok {
			square = -1
		}
		if plain := plainTaken(p, m); plain != square {
			t.Fatalf("%s: the test wants %d of %s, plainly it is %d: %+v", what, square, text(m), plain, p)
		}
		checkTaken(t, what, p, m, square)
		delete(squares, text(m))
	}
	if len(squares) > 0 {
		t.Errorf("%s: not told: %v: %+v", what, squares, p)
	}
}

func TestTaken(t *testing.T) {
	for _, x := range []struct{ texts, want string }{
		{"Ra1 na3 Kb1 pb2 pc1 ph8", "a1a3:a3 b1b2:b2 b1c1:c1"},
		{"Pe4 pd5 nf5 pe5", "e4d5:d5 e4f5:f5"},
		{"Pe5 pd5 =d6", "e5d6:d5"},
		{"Pe5 pf5 =f6", "e5f6:f5"},
		{"Pd5 Pf5 pe5 =e6", "d5e6:e5 f5e6:e5"},
		{"Pa5 pb5 =b6", "a5b6:b5"},
		{"Ph5 pg5 =g6", "h5g6:g5"},
		// Straight ahead nothing is taken, and others than pawns take nothing in passing.
		{"Pe5 Nb5 Qe3 Kd5 pd7 =e6", ""},
		{"Pe5 Nb5 Rd3 Bc5 pd5 =d6", "e5d6:d5 d3d5:d5"},
		{"Ke5 Qc5 Nf5 =d6", ""},
		// What stands on the passing square is taken there; behind it there need not stand anything.
		{"Pe5 nd6 pd5 =d6", "e5d6:d6"},
		{"Pe5 =d6", "e5d6:d5"},
		{"Pe3 Bd3 =d4", "e3d4:d3"},
		{"Ph2 =g3", "h2g3:g2"},
		{"Ph7 pg7 =g8", "h7g8n:g7 h7g8b:g7 h7g8r:g7 h7g8q:g7"},
		{"Ph7 rg8", "h7g8n:g8 h7g8b:g8 h7g8r:g8 h7g8q:g8"},
	} {
		for _, v := range []uint8{0, 1, 2, 5, 6, 7} {
			checkTakes(t, x.texts, placed(v, 0, x.texts), x.want)
		}
		for _, v := range variants {
			checkPlainly(t, x.texts, placed(v, 0, x.texts))
			checkPlainly(t, x.texts, placed(v, 1, exchanged(turned(x.texts))))
		}
	}
	for _, v := range variants {
		checkTakes(t, "Black", placed(v, 1, "pe4 Pd4 =d3 nb4 Pa2"), "e4d3:d4 b4a2:a2")
		checkTakes(t, "Black", placed(v, 1, "pa4 Pb4 =b3"), "a4b3:b4")
		checkTakes(t, "Black", placed(v, 1, "ph4 Pg4 =g3 Nh3"), "h4g3:g4")
		checkTakes(t, "a king's way to a passing square", placed(v, 1, "ke4 Pd4 =d3"), map[bool]string{false: "e4d4:d4"}[v == api.Atomic])
	}
	checkTakes(t, "Antichess", placed(api.Antichess, 0, "Pa7 kb8"), "a7b8n:b8 a7b8b:b8 a7b8r:b8 a7b8q:b8 a7b8k:b8")
}

// What is no move of List's takes nothing, though a piece of the other color stands on To.
func TestTakenOfMovesThatAreNotTold(t *testing.T) {
	p := placed(api.Standard, 0, "Ke1 Ra1 Rh1 Pe5 Pb7 ra8 nh8 pd5 pf5 pe6 pe2 =d6 nc1")
	for _, m := range []api.Move{
		{From: 4, To: 7, Castle: true},
		{From: 4, To: 0, Castle: true},
		{From: 4, To: 12, Castle: true},
		{From: 36, To: 43, Castle: true},
		{From: 7, To: 63, Castle: true},
		{From: 7, To: 63, Drop: api.Rook},
		{From: 63, To: 63, Drop: api.Knight},
		{From: 63, To: 63},
		{From: 35, To: 35, Drop: api.Pawn},
		{From: 36, To: 43, Drop: api.Pawn},
		{From: 36, To: 43, Promote: api.Queen},
		{From: 36, To: 43, Promote: 255},
		{From: 7, To: 63, Promote: api.Queen},
		{From: 49, To: 56},
		{From: 49, To: 56, Promote: api.Pawn},
		{From: 49, To: 56, Promote: api.King},
		{From: 49, To: 56, Promote: 7},
		{From: 49, To: 56, Promote: 8 + api.Queen},
		{From: 49, To: 56, Promote: api.Queen, Drop: api.Queen},
		{From: 49, To: 56, Promote: api.Queen, Castle: true},
		{From: 36, To: 44},
		{From: 36, To: 35},
		{From: 36, To: 37},
		{From: 36, To: 45},
		{From: 4, To: 35},
		{From: 0, To: 56 + 64 - 128},
		{From: 0, To: 63},
		{From: 0, To: 7},
		{From: 56, To: 0},
		{From: 63, To: 7},
		{From: 2, To: 19},
		{From: 20, To: 35},
		{From: 27, To: 35},
		{From: -1, To: 35},
		{From: -28, To: 43},
		{From: 64, To: 56},
		{From: 68, To: 12},
		{From: 100, To: 43},
		{From: 127, To: 127},
		{From: -128, To: -128},
		{From: 4, To: 76},
		{From: 4, To: -52},
		{From: 36, To: 107},
		{From: 36, To: -1},
		{From: -1, To: -1},
		{},
	} {
		checkTaken(t, "not told", p, m, -1)
	}
	// The moves beside which these lie do take.
	for _, x := range []struct {
		m    api.Move
		want int
	}{
		{api.Move{From: 36, To: 43}, 35},
		{api.Move{From: 7, To: 63}, 63},
		{api.Move{From: 0, To: 56}, 56},
		{api.Move{From: 0, To: 2}, 2},
		{api.Move{From: 4, To: 12}, 12},
		{api.Move{From: 49, To: 56, Promote: api.Queen}, 56},
	} {
		checkTaken(t, "told", p, x.m, x.want)
	}
}

// Any move that there is room for: just those of List take what they take, all others nothing.
func TestTakenOfAllMoves(t *testing.T) {
	for _, p := range []api.Position{
		placed(api.Standard, 0, "Ke1 Ra1 Rh1 Pe5 Pb7 ra8 nh8 pd5 pf5 pe6 pe2 =d6"),
		placed(api.Antichess, 1, "kg1 Rh1 Qb1 pa2 pd4 Pe4 =e3 Ba1"),
		placed(api.Racing, 0, "Kd4 Pa7 nb8 Qa1 qa3"),
	} {
		takes := map[api.Move]int{}
		for _, m := range plainList(p) {
			takes[m] = plainTaken(p, m)
		}
		for from := -128; from < 128; from++ {
			for to := -128; to < 128; to++ {
				for _, x := range []api.Move{{}, {Promote: 1}, {Promote: 2}, {Promote: 5}, {Promote: 6}, {Promote: 7}, {Drop: 1}, {Drop: 5}, {Castle: true}, {Promote: 5, Castle: true}, {Promote: 5, Drop: 1}} {
					m := x
					m.From, m.To = int8(from), int8(to)
					want, ok := takes[m]
					if !ok {
						want = -1
					}
					if pseudo.Taken(p, m) != want {
						checkTaken(t, "of all", p, m, want)
					}
				}
			}
		}
	}
}
