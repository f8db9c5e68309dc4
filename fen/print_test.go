package fen_test

import (
	"math"
	"strings"
	"testing"

	"kibitzer/api"
	"kibitzer/fen"
)

// P10.1

// known are positions whose texts are written by hand.
var known = []struct {
	name string
	p    func() api.Position
	text string
}{
	{"standard", func() api.Position { return start(api.Standard) }, "rnbqkbnr/pppppppp/8/8/8/8/PPPPPPPP/RNBQKBNR w KQkq - 0 1"},
	{"chess960", func() api.Position { return start(api.Chess960) }, "rnbqkbnr/pppppppp/8/8/8/8/PPPPPPPP/RNBQKBNR w KQkq - 0 1"},
	{"crazyhouse", func() api.Position { return start(api.Crazyhouse) }, "rnbqkbnr/pppppppp/8/8/8/8/PPPPPPPP/RNBQKBNR[] w KQkq - 0 1"},
	{"atomic", func() api.Position { return start(api.Atomic) }, "rnbqkbnr/pppppppp/8/8/8/8/PPPPPPPP/RNBQKBNR w KQkq - 0 1"},
	{"antichess", func() api.Position { return start(api.Antichess) }, "rnbqkbnr/pppppppp/8/8/8/8/PPPPPPPP/RNBQKBNR w - - 0 1"},
	{"threecheck", func() api.Position { return start(api.ThreeCheck) }, "rnbqkbnr/pppppppp/8/8/8/8/PPPPPPPP/RNBQKBNR w KQkq - +0+0 0 1"},
	{"kinghill", func() api.Position { return start(api.KingHill) }, "rnbqkbnr/pppppppp/8/8/8/8/PPPPPPPP/RNBQKBNR w KQkq - 0 1"},
	{"horde", func() api.Position { return start(api.Horde) }, "rnbqkbnr/pppppppp/8/1PP2PP1/PPPPPPPP/PPPPPPPP/PPPPPPPP/PPPPPPPP w kq - 0 1"},
	{"racing", func() api.Position { return start(api.Racing) }, "8/8/8/8/8/8/krbnNBRK/qrbnNBRQ w - - 0 1"},
	{"e4", func() api.Position {
		p := start(api.Standard)
		p.Board[12], p.Board[28], p.Turn, p.Passing = 0, 1, 1, 20
		return p
	}, "rnbqkbnr/pppppppp/8/8/4P3/8/PPPP1PPP/RNBQKBNR b KQkq e3 0 1"},
	{"inner rooks", func() api.Position {
		p := bare(api.Chess960)
		p.Board[1], p.Board[3], p.Board[5], p.Board[58], p.Board[60], p.Board[62] = 4, 6, 4, 12, 14, 12
		p.Rooks, p.Half, p.Full = [2][2]int8{{5, 1}, {6, 2}}, 49, 60
		return p
	}, "2r1k1r1/8/8/8/8/8/8/1R1K1R2 w FBgc - 49 60"},
	{"a rook between corner and king", func() api.Position {
		p := bare(api.Standard)
		p.Board[3], p.Board[60] = 6, 14
		p.Rooks = [2][2]int8{{7, 2}, {5, 0}}
		return p
	}, "4k3/8/8/8/8/8/8/3K4 w KCfq - 0 0"},
	{"pockets", func() api.Position {
		p := bare(api.Crazyhouse)
		p.Board[0], p.Board[9], p.Board[63], p.Promoted = 5, 10, 14, 1|1<<9
		p.Pockets = [2][6]uint8{{0, 3, 0, 1, 0, 2}, {0, 0, 1, 0, 2, 0}}
		p.Turn, p.Passing, p.Half, p.Full = 1, 63, 10000, 9999
		return p
	}, "7k/8/8/8/8/8/1n~6/Q~7[PPPBQQnrr] b - h8 10000 9999"},
	{"checks", func() api.Position {
		p := bare(api.ThreeCheck)
		p.Checks = [2]uint8{2, 3}
		return p
	}, "8/8/8/8/8/8/8/8 w - - +2+3 0 0"},
}

func TestKnown(t *testing.T) {
	for _, c := range known {
		p := c.p()
		if got := fen.Print(p); got != c.text {
			t.Errorf("%s: Print: %q, not %q", c.name, got, c.text)
		}
		if got, e := fen.Parse(p.Variant, c.text); e != api.OK || got != p {
			t.Errorf("%s: Parse: %d %+v, not %+v", c.name, e, got, p)
		}
		checkPrint(t, p)
	}
}

// TestEachPiece: each number on each square of each variant, alone and among others.
func TestEachPiece(t *testing.T) {
	for v := range api.Variants {
		for s := range 64 {
			for n := range 256 {
				p := bare(v)
				p.Board[s] = uint8(n)
				checkPrint(t, p)
				if plainLetters[uint8(n)] == "" {
					continue
				}
				p.Promoted = 1 << s
				checkPrint(t, p)
				q := start(v)
				q.Rooks = p.Rooks
				q.Board[s] = uint8(n)
				checkPrint(t, q)
			}
		}
	}
}

// TestGaps: each way in which a rank may be empty here and occupied there.
func TestGaps(t *testing.T) {
	for rank := range 8 {
		for there := range 256 {
			p := bare(api.Crazyhouse)
			for file := range 8 {
				if there>>file&1 == 1 {
					p.Board[8*rank+file] = plainMen[(file+rank)%12]
				}
			}
			checkPrint(t, p)
			p.Promoted = uint64(there&0x5A) << (8 * rank)
			checkPrint(t, p)
			p.Promoted = uint64(there) << (8 * rank)
			checkPrint(t, p)
		}
	}
}

// plainMen are the numbers of all pieces.
var plainMen = []uint8{1, 2, 3, 4, 5, 6, 9, 10, 11, 12, 13, 14}

func TestPromoted(t *testing.T) {
	for v := range api.Variants {
		p := start(v)
		for s := range 64 {
			p.Promoted = 1 << s
			checkPrint(t, p)
			if v != crazy || p.Board[s] == 0 {
				checkNone(t, p)
			}
		}
		p.Promoted = math.MaxUint64
		checkNone(t, p)
	}
	p := bare(api.Crazyhouse)
	for s := range p.Board {
		p.Board[s] = 9
	}
	p.Promoted = math.MaxUint64
	checkPrint(t, p)
	if got := fen.Print(p); got != strings.Repeat("p~p~p~p~p~p~p~p~/", 7)+"p~p~p~p~p~p~p~p~[] w - - 0 0" {
		t.Errorf("Print of a board of promoted ones: %q", got)
	}
	p.Board[37] = 0
	checkNone(t, p)
}

func TestPockets(t *testing.T) {
	for v := range api.Variants {
		for c := range 2 {
			for k := range 6 {
				for n := range 256 {
					p := bare(v)
					p.Pockets[c][k] = uint8(n)
					checkPrint(t, p)
					if n > 0 && (v != crazy || k == 0) {
						checkNone(t, p)
					}
				}
			}
		}
	}
	p := bare(api.Crazyhouse)
	for c := range 2 {
		for k := 1; k < 6; k++ {
			p.Pockets[c][k] = 255
		}
	}
	checkNone(t, p)
}

// TestLongest: texts around the greatest length, brought there by pockets, by pieces, by clocks, by rooks.
func TestLongest(t *testing.T) {
	p := bare(api.Crazyhouse)
	p.Pockets = [2][6]uint8{{0, 100, 73}, {}}
	grown := []func(p *api.Position){
		func(p *api.Position) { p.Pockets[1][5]++ },
		func(p *api.Position) { p.Pockets[0][1]++ },
		func(p *api.Position) { p.Board[3] = 1 },
		func(p *api.Position) { p.Half = 10 },
		func(p *api.Position) { p.Full = 10 },
		func(p *api.Position) { p.Passing = 0 },
	}
	for i, grow := range grown {
		p := p
		if got := fen.Print(p); len(got) != api.MaxFen {
			t.Errorf("%d: %d bytes: %q", i, len(got), got)
		}
		checkPrint(t, p)
		grow(&p)
		checkNone(t, p)
		p.Pockets[0][2] -= 2
		checkPrint(t, p)
		if got := fen.Print(p); got == "" {
			t.Errorf("%d: nothing, with room again", i)
		}
	}
	for n := range 256 {
		p.Pockets[0][1] = uint8(n)
		checkPrint(t, p)
	}
}

func TestTurn(t *testing.T) {
	for v := range api.Variants {
		p := start(v)
		for n := range 256 {
			p.Turn = uint8(n)
			checkPrint(t, p)
			if n > 1 {
				checkNone(t, p)
			}
		}
	}
}

func TestPassing(t *testing.T) {
	for v := range api.Variants {
		p := start(v)
		for n := math.MinInt8; n <= math.MaxInt8; n++ {
			p.Passing = int8(n)
			checkPrint(t, p)
			if n < -1 || n > 63 {
				checkNone(t, p)
			}
		}
	}
}

// TestRooks: each number of a side's rook, with the color's king on each square, and with none.
func TestRooks(t *testing.T) {
	for c := range 2 {
		for side := range 2 {
			for king := -1; king < 64; king++ {
				for n := math.MinInt8; n <= math.MaxInt8; n++ {
					p := bare(uint8(king+n+200) % api.Variants)
					if king >= 0 {
						p.Board[king] = uint8(8*c + 6)
					}
					p.Rooks[c][side] = int8(n)
					checkPrint(t, p)
				}
			}
		}
	}
}

// TestFourRooks: each king on each file of its home, each rook on each file, both colors at once.
func TestFourRooks(t *testing.T) {
	for v := range api.Variants {
		for king := range 8 {
			p := bare(v)
			p.Board[king], p.Board[63-king] = 6, 14
			for n := range 9 * 9 {
				p.Rooks = [2][2]int8{{int8(n/9 - 1), int8(n%9 - 1)}, {int8(n%9 - 1), int8(n/9 - 1)}}
				checkPrint(t, p)
				p.Rooks[1] = [2]int8{-1, int8(6 - king)}
				checkPrint(t, p)
				p.Rooks[1] = [2]int8{int8(8 - king), -1}
				checkPrint(t, p)
			}
		}
	}
}

// TestTwoKings: of several kings of a color the least square counts, and no king of the other color.
func TestTwoKings(t *testing.T) {
	for c := range 2 {
		for one := range 64 {
			for other := range one {
				p := bare(uint8(one+other) % api.Variants)
				p.Board[one], p.Board[other] = uint8(8*c+6), uint8(8*c+6)
				p.Rooks[c] = [2]int8{7, 0}
				checkPrint(t, p)
				p.Rooks[c] = [2]int8{7, -1}
				checkPrint(t, p)
				p.Board[other] = uint8(8*(1-c) + 6)
				checkPrint(t, p)
			}
		}
	}
}

func TestChecks(t *testing.T) {
	for v := range api.Variants {
		p := start(v)
		for white := range 256 {
			for black := range 256 {
				if v != three && white > 4 && black > 4 {
					continue
				}
				p.Checks = [2]uint8{uint8(white), uint8(black)}
				checkPrint(t, p)
				if white > 3 || black > 3 || v != three && white+black > 0 {
					checkNone(t, p)
				}
			}
		}
	}
}

func TestClocks(t *testing.T) {
	for v := range api.Variants {
		p := start(v)
		for n := -1; n <= 10001; n++ {
			if n > 110 && n < 9990 && uint8(n%9) != v {
				continue
			}
			p.Half, p.Full = n, 1
			checkPrint(t, p)
			p.Half, p.Full = 0, n
			checkPrint(t, p)
			p.Half, p.Full = n, 10000-n
			checkPrint(t, p)
		}
		for _, n := range []int{-1, -10, 10001, 10010, 99999, 65536, 1 << 31, 1 << 32, -1 << 32, math.MinInt, math.MaxInt} {
			p.Half, p.Full = n, 1
			checkNone(t, p)
			p.Half, p.Full = 0, n
			checkNone(t, p)
		}
	}
}

func TestVariants(t *testing.T) {
	for v := range 256 {
		p := bare(uint8(v))
		checkPrint(t, p)
		if v > 8 {
			checkNone(t, p)
		}
		q := start(api.Standard)
		q.Variant = uint8(v)
		checkPrint(t, q)
	}
}

// TestOneWrong: a position that can be written, and each reason for which it can't be, one at a time.
func TestOneWrong(t *testing.T) {
	for v := range api.Variants {
		good := start(v)
		good.Board[4], good.Board[60] = 6, 14
		checkPrint(t, good)
		if fen.Print(good) == "" {
			t.Errorf("%d: can't be written", v)
		}
		for name, spoil := range map[string]func(p *api.Position){
			"variant":           func(p *api.Position) { p.Variant = 9 },
			"turn":              func(p *api.Position) { p.Turn = 2 },
			"board: 7":          func(p *api.Position) { p.Board[30] = 7 },
			"board: 8":          func(p *api.Position) { p.Board[63] = 8 },
			"board: 15":         func(p *api.Position) { p.Board[0] = 15 },
			"board: 17":         func(p *api.Position) { p.Board[0] = 17 },
			"passing: -2":       func(p *api.Position) { p.Passing = -2 },
			"passing: 64":       func(p *api.Position) { p.Passing = 64 },
			"promoted: nothing": func(p *api.Position) { p.Promoted = 1 << 40 },
			"pockets: kind 0":   func(p *api.Position) { p.Pockets[1][0] = 1 },
			"checks: 4":         func(p *api.Position) { p.Checks[1] = 4 },
			"half":              func(p *api.Position) { p.Half = 10001 },
			"full":              func(p *api.Position) { p.Full = -1 },
			"rook: 8":           func(p *api.Position) { p.Rooks[0][0] = 8 },
			"rook: -2":          func(p *api.Position) { p.Rooks[1][1] = -2 },
			"rook: on the king": func(p *api.Position) { p.Rooks[0][0] = 4 },
			"rook: left":        func(p *api.Position) { p.Rooks[1][0] = 3 },
			"rook: right":       func(p *api.Position) { p.Rooks[1][1] = 5 },
			"king: not at home": func(p *api.Position) { p.Board[4], p.Board[12], p.Rooks[0][0] = 0, 6, 7 },
			"king: another one": func(p *api.Position) { p.Board[52], p.Rooks[1][1] = 14, 0 },
			"king: none":        func(p *api.Position) { p.Board[60], p.Rooks[1][0] = 0, 7 },
		} {
			p := good
			spoil(&p)
			if got := fen.Print(p); got != "" {
				t.Errorf("%d: %s: %q", v, name, got)
			}
		}
	}
}

func TestWild(t *testing.T) {
	d := dice(101)
	for range 20000 {
		checkPrint(t, d.wild())
	}
}
