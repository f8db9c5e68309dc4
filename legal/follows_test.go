package legal_test

import (
	"slices"
	"testing"

	"kibitzer/after"
	"kibitzer/api"
	"kibitzer/fen"
	"kibitzer/legal"
	"kibitzer/rules"
	"kibitzer/valid"
)

// P17.4

// kingsAreWell: whether behind the move of the position who moved has its king, if it must not be lost, and is not in check (in Atomic it may be, where it has blown up the other king); in Racing nobody is.
func kingsAreWell(p api.Position, m api.Move) bool {
	behind, _ := after.Move(p, m)
	if p.Variant == api.Racing && plainAttacked(behind, 1-p.Turn) {
		return false
	}
	if !plainRoyal(p.Variant, p.Turn) {
		return true
	}
	won := p.Variant == api.Atomic && plainKing(behind, 1-p.Turn) < 0
	return plainKing(behind, p.Turn) >= 0 && (won || !plainAttacked(behind, p.Turn))
}

func TestKings(t *testing.T) {
	told := [2]int{}
	for _, p := range slices.Concat(mixed(1350), played()) {
		list := legal.List(p)
		for _, m := range list {
			told[0]++
			if !kingsAreWell(p, m) {
				t.Errorf("%+v behind %+v", m, p)
			}
		}
		// Without a win, but in Antichess, List leaves out no other moves.
		if plainWon(p).State != 0 || p.Variant == api.Antichess {
			continue
		}
		for _, m := range after.All(p) {
			if !slices.Contains(list, m) {
				told[1]++
				if kingsAreWell(p, m) {
					t.Errorf("%+v is left out: %+v", m, p)
				}
			}
		}
	}
	if told[0] < 20000 || told[1] < 10000 {
		t.Errorf("%d moves told, %d left out are too few to tell much", told[0], told[1])
	}
}

// P17.5

func TestNoneBeyondAWin(t *testing.T) {
	ended, would := 0, 0
	for _, p := range slices.Concat(mixed(2700), played()) {
		if plainWon(p).State == 0 {
			continue
		}
		ended++
		would += len(plainWould(p))
		if list := legal.List(p); len(list) > 0 {
			t.Errorf("%v: %+v", list, p)
		}
		for _, m := range after.All(p) {
			if legal.Is(p, m) {
				t.Errorf("%+v: %+v", m, p)
			}
		}
	}
	if ended < 300 || would < 3000 {
		t.Errorf("%d wins, %d moves behind them are too few to tell much", ended, would)
	}
}

func TestClocks(t *testing.T) {
	for _, p := range slices.Concat(mixed(450), played()[:300]) {
		result, list := legal.Won(p), legal.List(p)
		for _, clocks := range [][2]int{{0, 1}, {100, 60}, {150, 80}, {api.MaxClock, api.MaxClock}, {-1, -1}, {1 << 40, -1 << 62}} {
			q := p
			q.Half, q.Full = clocks[0], clocks[1]
			if got := legal.Won(q); got != result {
				t.Errorf("clocks %v: %v, not %v: %+v", clocks, got, result, p)
			}
			if got := legal.List(q); !slices.Equal(got, list) {
				t.Errorf("clocks %v: %v, not %v: %+v", clocks, got, list, p)
			}
		}
	}
}

// P12.3: behind a move that may be, of a position that may be, the position may be.

// tidied are those of so many mixed positions that may be, once what is wrong with their boards, pockets, checks is taken away.
func tidied(n int) []api.Position {
	var l []api.Position
	for _, p := range mixed(n) {
		if p.Variant != api.ThreeCheck {
			p.Checks = [2]uint8{}
		}
		p.Checks[0], p.Checks[1] = min(p.Checks[0], 3), min(p.Checks[1], 3)
		for s, number := range p.Board {
			farPawn := number&7 == 1 && (s/8 == 0 && (p.Variant != api.Horde || number == 9) || s/8 == 7 || p.Variant == api.Racing)
			if !isMan(number) || farPawn || p.Variant == api.Horde && number == 6 {
				p.Board[s] = 0
			}
			if kind := p.Board[s] & 7; p.Variant != api.Crazyhouse || kind < 2 || kind > 5 {
				p.Promoted &^= 1 << s
			}
		}
		for color := range p.Pockets {
			p.Pockets[color][0] = 0
			if p.Variant != api.Crazyhouse {
				p.Pockets[color] = [6]uint8{}
			}
		}
		if p = valid.Mend(p); valid.Check(p) == api.OK {
			l = append(l, p)
		}
	}
	return l
}

func TestMovesLeadOn(t *testing.T) {
	led := 0
	for _, p := range slices.Concat(tidied(2700), played()) {
		if e := valid.Check(p); e != api.OK {
			t.Errorf("%d: %+v", e, p)
			continue
		}
		for _, m := range legal.List(p) {
			led++
			behind, ok := after.Move(p, m)
			if e := valid.Check(behind); !ok || e != api.OK {
				t.Errorf("%v, %d behind %+v: %+v", ok, e, m, p)
			}
		}
	}
	if led < 50000 {
		t.Errorf("%d moves are too few to tell much", led)
	}
}

// ways is how many ways of that length there are from the position.
func ways(p api.Position, length int) int {
	list := legal.List(p)
	if length == 1 {
		return len(list)
	}
	n := 0
	for _, m := range list {
		behind, _ := after.Move(p, m)
		n += ways(behind, length-1)
	}
	return n
}

// TestKnownNumbers holds how many ways there are against numbers that are known of positions in which much comes together: of one move, of two ..
func TestKnownNumbers(t *testing.T) {
	for _, x := range []struct {
		v    uint8
		text string
		want []int
	}{
		{api.Standard, "rnbqkbnr/pppppppp/8/8/8/8/PPPPPPPP/RNBQKBNR w KQkq - 0 1", []int{20, 400, 8902}},
		{api.Standard, "r3k2r/p1ppqpb1/bn2pnp1/3PN3/1p2P3/2N2Q1p/PPPBBPPP/R3K2R w KQkq - 0 1", []int{48, 2039}},
		{api.Standard, "8/2p5/3p4/KP5r/1R3p1k/8/4P1P1/8 w - - 0 1", []int{14, 191, 2812}},
		{api.Standard, "r3k2r/Pppp1ppp/1b3nbN/nP6/BBP1P3/q4N2/Pp1P2PP/R2Q1RK1 w kq - 0 1", []int{6, 264, 9467}},
		{api.Standard, "rnbq1k1r/pp1Pbppp/2p5/8/2B5/8/PPP1NnPP/RNBQK2R w KQ - 1 8", []int{44, 1486}},
		{api.Chess960, "bqnb1rkr/pp3ppp/3ppn2/2p5/5P2/P2P4/NPP1P1PP/BQ1BNRKR w KFkf - 2 9", []int{21, 528, 12189}},
		{api.Crazyhouse, "2k5/8/8/8/8/8/8/4K3[Qn] w - - 0 1", []int{67, 3083}},
		{api.Crazyhouse, "r1bqk2r/pppp1ppp/2n1p3/4P3/1b1Pn3/2NB1N2/PPP2PPP/R1BQK2R[] b KQkq - 0 1", []int{42, 1347}},
		{api.Atomic, "rn2kb1r/1pp1p2p/p2q1pp1/3P4/2P3b1/4PN2/PP3PPP/R2QKB1R b KQkq - 0 1", []int{40, 1238}},
		{api.Atomic, "rn1qkb1r/p5pp/2p5/3p4/N3P3/5P2/PPP4P/R1BQK3 w Qkq - 0 1", []int{28, 833, 23353}},
		{api.Antichess, "rnbqkbnr/pppppppp/8/8/8/8/PPPPPPPP/RNBQKBNR w - - 0 1", []int{20, 400, 8067}},
		{api.Antichess, "8/1p6/8/8/8/8/P7/8 w - - 0 1", []int{2, 4, 4, 3, 1, 0}},
		{api.Antichess, "8/2p5/8/8/8/8/P7/8 w - - 0 1", []int{2, 4, 4, 4, 4, 4, 4, 4, 12, 36, 312, 2557}},
		{api.ThreeCheck, "r3k2r/p1ppqpb1/bn2pnp1/3PN3/1p2P3/2N2Q1p/PPPBBPPP/R3K2R w KQkq - +2+2 0 1", []int{48, 2039, 97848}},
		{api.KingHill, "rnbqkbnr/pppppppp/8/8/8/8/PPPPPPPP/RNBQKBNR w KQkq - 0 1", []int{20, 400, 8902}},
		{api.Horde, "4k3/pp4q1/3P2p1/8/P3PP2/PPP2r2/PPP5/PPPP4 b - - 0 1", []int{30, 241, 6633}},
		{api.Horde, "k7/5p2/4p2P/3p2P1/2p2P2/1p2P2P/p2P2P1/2P2P2 w - - 0 1", []int{13, 172, 2205}},
		{api.Racing, "8/8/8/8/8/8/krbnNBRK/qrbnNBRQ w - - 0 1", []int{21, 421, 11264}},
		{api.Racing, "4brn1/2K2k2/8/8/8/8/8/8 w - - 0 1", []int{6, 33, 178, 3151, 12981}},
	} {
		p, e := fen.Parse(x.v, x.text)
		if e != api.OK {
			t.Errorf("%s: %s: %d", rules.Name(x.v), x.text, e)
			continue
		}
		for i, want := range x.want {
			if got := ways(p, i+1); got != want {
				t.Errorf("%s: %s: %d ways of %d moves, not %d", rules.Name(x.v), x.text, got, i+1, want)
			}
		}
	}
}
