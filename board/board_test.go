package board_test

import (
	"math"
	"math/bits"
	"testing"

	"kibitzer/api"
	"kibitzer/board"
)

// men are the numbers of all pieces there are.
var men = []uint8{1, 2, 3, 4, 5, 6, 9, 10, 11, 12, 13, 14}

// strangers are numbers above 0 that are no pieces: between and beside those of pieces, and such as have a piece's number in their lower bits.
var strangers = []uint8{7, 8, 15, 16, 17, 22, 23, 24, 25, 30, 31, 32, 64, 65, 127, 128, 129, 137, 142, 249, 254, 255}

// noSquares are numbers that are no squares: just outside, congruent to a square, and as far out as an int goes.
var noSquares = []int{-1, -2, -4, -8, -52, -60, -63, -64, -65, -128, 64, 65, 68, 115, 127, 128, 132, 255, 256, 1 << 31, 1 << 32, 1<<32 + 4, -1 << 32, math.MinInt, math.MinInt + 4, math.MaxInt - 1, math.MaxInt}

// colorAndKind are a piece's, told apart from how the layers reckon them; false of a number that is none's.
func colorAndKind(number uint8) (color, kind uint8, ok bool) {
	for i, man := range men {
		if man == number {
			return uint8(i / 6), uint8(i%6 + 1), true
		}
	}
	return 0, 0, false
}

// dice tell numbers without order, the same ones in each run.
type dice uint64

func (d *dice) next() uint64 {
	*d = *d*6364136223846793005 + 1442695040888963407
	return uint64(*d ^ *d>>29)
}

func (d *dice) below(n int) int { return int((d.next() >> 33) % uint64(n)) }

// oneOf is some number of the list.
func (d *dice) oneOf(list []uint8) uint8 { return list[d.below(len(list))] }

// filled is a position with every field set in some way, its board with nothing, pieces and, as many of ten as it is told, strangers.
func (d *dice) filled(strange int) api.Position {
	p := api.Position{
		Variant:  uint8(d.below(256)),
		Promoted: d.next(),
		Turn:     uint8(d.below(4)),
		Passing:  int8(d.below(256) - 128),
		Checks:   [2]uint8{uint8(d.below(256)), uint8(d.below(256))},
		Half:     int(d.next()),
		Full:     int(d.next()),
	}
	for s := range p.Board {
		switch by := d.below(20); {
		case by < 2*strange:
			p.Board[s] = d.oneOf(strangers)
		case by%2 == 1:
			p.Board[s] = d.oneOf(men)
		}
	}
	for color := range 2 {
		for i := range p.Pockets[color] {
			p.Pockets[color][i] = uint8(d.below(256))
		}
		for i := range p.Rooks[color] {
			p.Rooks[color][i] = int8(d.below(256) - 128)
		}
	}
	return p
}

// example is the chapter's: a white king on e1, a black pawn on d7, and 7 on a1.
func example() api.Position {
	var p api.Position
	p.Board[4], p.Board[51], p.Board[0] = 6, 9, 7
	return p
}

// first is a position as games begin with.
func first() api.Position {
	p := api.Position{Rooks: [2][2]int8{{7, 0}, {7, 0}}, Passing: -1, Full: 1}
	for file, kind := range []uint8{4, 2, 3, 5, 6, 3, 2, 4} {
		p.Board[file], p.Board[8+file], p.Board[48+file], p.Board[56+file] = kind, 1, 9, 8+kind
	}
	return p
}

// boards are empty ones, the example, a game's beginning, boards full of one number, of each number there is on some square, and mixed ones.
func boards() []api.Position {
	l := []api.Position{{}, example(), first()}
	for _, number := range append(append([]uint8{}, men...), strangers...) {
		var p api.Position
		for s := range p.Board {
			p.Board[s] = number
		}
		l = append(l, p)
	}
	l = append(l, everything()...)
	d := dice(6)
	for i := range 40 {
		l = append(l, d.filled(i%4))
	}
	return l
}

// everything are four boards on which each number there is stands once.
func everything() []api.Position {
	l := make([]api.Position, 4)
	for number := range 256 {
		l[number/64].Board[number%64] = uint8(number)
	}
	return l
}

// plain is the set of a color and a kind, reckoned square by square.
func plain(p api.Position, color, kind uint8) uint64 {
	b := uint64(0)
	for s, number := range p.Board {
		c, k, ok := colorAndKind(number)
		if ok && c == color && (kind == 0 || k == kind) {
			b |= 1 << s
		}
	}
	return b
}

func checkNumber(t *testing.T, what string, of int, got, want int) {
	t.Helper()
	if got != want {
		t.Errorf("%s of %d: %d, not %d", what, of, got, want)
	}
}

func checkSet(t *testing.T, what string, p api.Position, got, want uint64) {
	t.Helper()
	if got != want {
		t.Errorf("%s: %016x, not %016x: %v", what, got, want, p.Board)
	}
}

func checkPosition(t *testing.T, what string, got, want api.Position) {
	t.Helper()
	if got != want {
		t.Errorf("%s: %v, not %v", what, got, want)
	}
}

// P6.1

func TestAtExamples(t *testing.T) {
	p := example()
	for _, c := range []struct{ s, want int }{{4, 6}, {51, 9}, {0, 0}, {64, 0}, {-1, 0}, {1, 0}, {63, 0}} {
		checkNumber(t, "At", c.s, int(board.At(p, c.s)), c.want)
	}
}

func TestAtOfAllNumbersOnAllSquares(t *testing.T) {
	for i := range 256 {
		want := 0
		if _, _, ok := colorAndKind(uint8(i)); ok {
			want = i
		}
		for s := range api.Squares {
			var p api.Position
			p.Board[s] = uint8(i)
			for at := range api.Squares {
				if at == s {
					checkNumber(t, "At", at, int(board.At(p, at)), want)
				} else {
					checkNumber(t, "At of another square", at, int(board.At(p, at)), 0)
				}
			}
		}
	}
}

func TestAtOfNoSquare(t *testing.T) {
	for _, p := range boards() {
		for _, s := range noSquares {
			checkNumber(t, "At", s, int(board.At(p, s)), 0)
		}
	}
}

func TestSetExamples(t *testing.T) {
	p := example()
	for i, c := range []struct{ got, want uint64 }{
		{board.Of(p, 0, 6), 1 << 4},
		{board.Of(p, 0, 0), 1 << 4},
		{board.Of(p, 1, 0), 1 << 51},
		{board.Of(p, 1, 1), 1 << 51},
		{board.Of(p, 1, 6), 0},
		{board.Of(p, 0, 1), 0},
		{board.Of(p, 0, 7), 0},
		{board.Of(p, 2, 0), 0},
		{board.All(p), 1<<4 | 1<<51},
		{board.All(api.Position{}), 0},
		{board.Of(first(), 0, 1), 0xff00},
		{board.Of(first(), 1, 1), 0x00ff << 48},
		{board.Of(first(), 0, 4), 0x81},
		{board.Of(first(), 1, 3), 0x24 << 56},
		{board.Of(first(), 1, 5), 0x08 << 56},
		{board.Of(first(), 0, 0), 0xffff},
		{board.Of(first(), 1, 0), 0xffff << 48},
		{board.All(first()), 0xffff<<48 | 0xffff},
	} {
		if c.got != c.want {
			t.Errorf("%d: %x, not %x", i, c.got, c.want)
		}
	}
}

func TestOfAllColorsAndKinds(t *testing.T) {
	for _, p := range boards() {
		for color := range uint8(2) {
			for kind := range uint8(7) {
				checkSet(t, "Of", p, board.Of(p, color, kind), plain(p, color, kind))
			}
		}
	}
}

// On these boards stand all numbers there are, so that each one that is no color and no kind is that of some number, reckoned by eights.
func TestOfNoColorOrKind(t *testing.T) {
	numbers := everything()
	for color := range 256 {
		for kind := range 256 {
			if color < 2 && kind < 7 {
				continue
			}
			for _, p := range numbers {
				checkSet(t, "Of no color or kind", p, board.Of(p, uint8(color), uint8(kind)), 0)
			}
		}
	}
	for _, p := range boards() {
		for _, no := range []uint8{2, 3, 7, 8, 16, 31, 32, 33, 128, 254, 255} {
			for kind := range uint8(16) {
				checkSet(t, "Of no color", p, board.Of(p, no, kind), 0)
			}
		}
		for _, no := range []uint8{7, 8, 9, 14, 15, 16, 17, 128, 129, 254, 255} {
			for color := range uint8(4) {
				checkSet(t, "Of no kind", p, board.Of(p, color, no), 0)
			}
		}
	}
}

func TestAllIsWhatStands(t *testing.T) {
	for _, p := range boards() {
		want := uint64(0)
		for s := range api.Squares {
			if board.At(p, s) != 0 {
				want |= 1 << s
			}
		}
		checkSet(t, "All", p, board.All(p), want)
	}
}

func TestStrangersCountAsNothing(t *testing.T) {
	for _, number := range strangers {
		for s := range api.Squares {
			p := first()
			p.Board[s] = number
			without := first()
			without.Board[s] = 0
			checkNumber(t, "At", s, int(board.At(p, s)), 0)
			checkSet(t, "All", p, board.All(p), board.All(without))
			for color := range uint8(3) {
				for kind := range uint8(8) {
					checkSet(t, "Of", p, board.Of(p, color, kind), board.Of(without, color, kind))
				}
			}
		}
	}
}

// The sets are of what stands on the board, whatever the rest of the position says.
func TestSetsHangOnTheBoardAlone(t *testing.T) {
	d := dice(61)
	for range 20 {
		p := d.filled(2)
		alone := api.Position{Board: p.Board}
		checkSet(t, "All", p, board.All(p), board.All(alone))
		for color := range uint8(3) {
			for kind := range uint8(8) {
				checkSet(t, "Of", p, board.Of(p, color, kind), board.Of(alone, color, kind))
			}
		}
	}
}

// P6.2

func TestFindAndCountExamples(t *testing.T) {
	p := example()
	for i, c := range []struct{ got, want int }{
		{board.Find(p, 1, 1), 51},
		{board.Find(p, 1, 5), -1},
		{board.Find(p, 0, 6), 4},
		{board.Find(p, 0, 0), 4},
		{board.Find(p, 2, 0), -1},
		{board.Find(p, 0, 7), -1},
		{board.Count(p, 0, 0), 1},
		{board.Count(p, 1, 0), 1},
		{board.Count(p, 1, 5), 0},
		{board.Count(p, 2, 0), 0},
		{board.Count(p, 1, 7), 0},
		{board.Find(first(), 0, 1), 8},
		{board.Find(first(), 1, 1), 48},
		{board.Find(first(), 1, 0), 48},
		{board.Find(first(), 0, 4), 0},
		{board.Find(first(), 1, 6), 60},
		{board.Count(first(), 0, 1), 8},
		{board.Count(first(), 1, 2), 2},
		{board.Count(first(), 1, 0), 16},
	} {
		if c.got != c.want {
			t.Errorf("%d: %d, not %d", i, c.got, c.want)
		}
	}
}

func TestFindAndCountOfAllSets(t *testing.T) {
	for _, p := range boards() {
		for color := range uint8(4) {
			for kind := range uint8(10) {
				least, many := -1, 0
				for s := range api.Squares {
					c, k, ok := colorAndKind(p.Board[s])
					if !ok || c != color || kind != 0 && k != kind {
						continue
					}
					many++
					if least < 0 {
						least = s
					}
				}
				checkNumber(t, "Find", int(kind), board.Find(p, color, kind), least)
				checkNumber(t, "Count", int(kind), board.Count(p, color, kind), many)
			}
		}
	}
}

func TestFindOnTheFirstAndTheLastSquare(t *testing.T) {
	for _, man := range men {
		color, kind, _ := colorAndKind(man)
		for s := range api.Squares {
			var p api.Position
			p.Board[s] = man
			checkNumber(t, "Find", s, board.Find(p, color, kind), s)
			checkNumber(t, "Find of all kinds", s, board.Find(p, color, 0), s)
			checkNumber(t, "Find of the other color", s, board.Find(p, 1-color, kind), -1)
			checkNumber(t, "Count", s, board.Count(p, color, kind), 1)
			p.Board[63] = man
			checkNumber(t, "Find of two", s, board.Find(p, color, kind), s)
		}
		var full api.Position
		for s := range full.Board {
			full.Board[s] = man
		}
		checkNumber(t, "Count of a full board", int(man), board.Count(full, color, kind), 64)
		checkNumber(t, "Find on a full board", int(man), board.Find(full, color, kind), 0)
	}
}

func TestFindAndCountOfNoColorOrKind(t *testing.T) {
	for _, p := range boards() {
		for _, c := range [][2]uint8{{2, 0}, {2, 1}, {3, 6}, {255, 0}, {255, 7}, {0, 7}, {1, 7}, {0, 8}, {0, 9}, {1, 14}, {0, 255}, {1, 255}} {
			checkNumber(t, "Find", int(c[0]), board.Find(p, c[0], c[1]), -1)
			checkNumber(t, "Count", int(c[0]), board.Count(p, c[0], c[1]), 0)
		}
	}
}

// P6.3

func TestPutExamples(t *testing.T) {
	p := example()
	checkNumber(t, "At after Put of a queen", 51, int(board.At(board.Put(p, 51, 5), 51)), 5)
	checkNumber(t, "At after Put of 7", 4, int(board.At(board.Put(p, 4, 7), 4)), 6)
	checkNumber(t, "At after Put of nothing", 4, int(board.At(board.Put(p, 4, 0), 4)), 0)
	checkPosition(t, "Put on 64", board.Put(p, 64, 5), p)
	checkPosition(t, "Put on -1", board.Put(p, -1, 5), p)
}

// Each number, on each square: all fields and all other squares are as they were, strangers among them.
func TestPutOfAllNumbersOnAllSquares(t *testing.T) {
	d := dice(62)
	for _, p := range []api.Position{{}, example(), first(), d.filled(0), d.filled(2), d.filled(10)} {
		had := p
		for s := range api.Squares {
			for i := range 256 {
				want := p
				if _, _, ok := colorAndKind(uint8(i)); ok || i == 0 {
					want.Board[s] = uint8(i)
				}
				checkPosition(t, "Put", board.Put(p, s, uint8(i)), want)
			}
		}
		checkPosition(t, "handed to Put", p, had)
	}
}

// Nothing that is put on a stranger's square sweeps it off; a stranger that is put there leaves it.
func TestPutOnStrangers(t *testing.T) {
	for _, number := range strangers {
		var p api.Position
		p.Board[17] = number
		checkPosition(t, "Put of nothing", board.Put(p, 17, 0), api.Position{})
		for _, other := range strangers {
			checkPosition(t, "Put of a stranger", board.Put(p, 17, other), p)
		}
	}
}

func TestPutOnNoSquare(t *testing.T) {
	for _, p := range boards() {
		for _, s := range noSquares {
			for _, number := range []uint8{0, 1, 6, 7, 8, 9, 14, 15, 16, 255} {
				checkPosition(t, "Put on no square", board.Put(p, s, number), p)
			}
		}
	}
}

// P6.4

func TestMirrorExamples(t *testing.T) {
	m := board.Mirror(example())
	checkNumber(t, "At", 60, int(board.At(m, 60)), 14)
	checkNumber(t, "At", 11, int(board.At(m, 11)), 1)
	var want api.Position
	want.Board[60], want.Board[11] = 14, 1
	want.Turn = 1 // the other one's
	want.Passing = 56
	checkPosition(t, "Mirror of the example", m, want)
}

func TestMirrorOfTheBeginning(t *testing.T) {
	want := first()
	want.Turn = 1
	checkPosition(t, "Mirror", board.Mirror(first()), want)
}

// One number on one square: nothing else of the board is touched by it.
func TestMirrorOfAllNumbersOnAllSquares(t *testing.T) {
	for i := range 256 {
		other := uint8(0)
		if _, _, ok := colorAndKind(uint8(i)); ok {
			other = uint8(i) ^ 8
		}
		for s := range api.Squares {
			p := api.Position{Passing: -1}
			p.Board[s] = uint8(i)
			want := api.Position{Passing: -1, Turn: 1}
			want.Board[8*(7-s/8)+s%8] = other
			checkPosition(t, "Mirror", board.Mirror(p), want)
		}
	}
}

// Each field by itself, so that none of them is taken for another.
func TestMirrorOfEachField(t *testing.T) {
	plain := api.Position{Turn: 2, Passing: -1} // these two stay as they are
	checkPosition(t, "Mirror of nothing", board.Mirror(plain), plain)
	for _, c := range []struct {
		name string
		set  func(p, want *api.Position)
	}{
		{"Variant", func(p, want *api.Position) { p.Variant, want.Variant = 7, 7 }},
		{"Variant that is none", func(p, want *api.Position) { p.Variant, want.Variant = 255, 255 }},
		{"Promoted", func(p, want *api.Position) { p.Promoted, want.Promoted = 0x0123456789abcdef, 0xefcdab8967452301 }},
		{"Promoted a1", func(p, want *api.Position) { p.Promoted, want.Promoted = 1, 1<<56 }},
		{"Promoted h8", func(p, want *api.Position) { p.Promoted, want.Promoted = 1<<63, 1<<7 }},
		{"Pockets", func(p, want *api.Position) {
			p.Pockets = [2][6]uint8{{1, 2, 3, 4, 5, 6}, {7, 8, 9, 10, 11, 255}}
			want.Pockets = [2][6]uint8{{7, 8, 9, 10, 11, 255}, {1, 2, 3, 4, 5, 6}}
		}},
		{"Rooks", func(p, want *api.Position) {
			p.Rooks, want.Rooks = [2][2]int8{{7, -1}, {5, 2}}, [2][2]int8{{5, 2}, {7, -1}}
		}},
		{"Rooks that are none", func(p, want *api.Position) {
			p.Rooks, want.Rooks = [2][2]int8{{-128, 127}, {8, -2}}, [2][2]int8{{8, -2}, {-128, 127}}
		}},
		{"Checks", func(p, want *api.Position) { p.Checks, want.Checks = [2]uint8{1, 2}, [2]uint8{2, 1} }},
		{"Checks beyond all", func(p, want *api.Position) { p.Checks, want.Checks = [2]uint8{255, 0}, [2]uint8{0, 255} }},
		{"Turn of White", func(p, want *api.Position) { p.Turn, want.Turn = 0, 1 }},
		{"Turn of Black", func(p, want *api.Position) { p.Turn, want.Turn = 1, 0 }},
		{"Passing e3", func(p, want *api.Position) { p.Passing, want.Passing = 20, 44 }},
		{"Half", func(p, want *api.Position) { p.Half, want.Half = 49, 49 }},
		{"Half below 0", func(p, want *api.Position) { p.Half, want.Half = math.MinInt, math.MinInt }},
		{"Full", func(p, want *api.Position) { p.Full, want.Full = 73, 73 }},
		{"Full as far as it goes", func(p, want *api.Position) { p.Full, want.Full = math.MaxInt, math.MaxInt }},
	} {
		p, want := plain, plain
		c.set(&p, &want)
		checkPosition(t, "Mirror of "+c.name, board.Mirror(p), want)
	}
}

func TestMirrorOfAllTurns(t *testing.T) {
	for turn := range 256 {
		want := turn
		if turn < 2 {
			want = 1 - turn
		}
		checkNumber(t, "Turn of Mirror", turn, int(board.Mirror(api.Position{Turn: uint8(turn)}).Turn), want)
	}
}

func TestMirrorOfAllPassings(t *testing.T) {
	for passing := -128; passing < 128; passing++ {
		want := passing
		if passing >= 0 && passing < 64 {
			want = 8*(7-passing/8) + passing%8
		}
		checkNumber(t, "Passing of Mirror", passing, int(board.Mirror(api.Position{Passing: int8(passing)}).Passing), want)
	}
}

// All fields together, reckoned one by one.
func TestMirrorOfMixedPositions(t *testing.T) {
	d := dice(64)
	for i := range 400 {
		p := d.filled(i % 11)
		want := p
		for s, number := range p.Board {
			to := 8*(7-s/8) + s%8
			want.Board[to] = 0
			if color, kind, ok := colorAndKind(number); ok {
				want.Board[to] = 8*(1-color) + kind
			}
		}
		want.Promoted = bits.ReverseBytes64(p.Promoted)
		want.Pockets[0], want.Pockets[1] = p.Pockets[1], p.Pockets[0]
		want.Rooks[0], want.Rooks[1] = p.Rooks[1], p.Rooks[0]
		want.Checks[0], want.Checks[1] = p.Checks[1], p.Checks[0]
		if p.Turn < 2 {
			want.Turn = 1 - p.Turn
		}
		if p.Passing >= 0 && p.Passing < 64 {
			want.Passing = p.Passing ^ 56
		}
		checkPosition(t, "Mirror", board.Mirror(p), want)
	}
}

// P6.5

func TestParts(t *testing.T) {
	for _, p := range boards() {
		sets := [2][7]uint64{}
		for color := range uint8(2) {
			made := uint64(0)
			for kind := range uint8(7) {
				sets[color][kind] = board.Of(p, color, kind)
				if kind > 0 {
					made |= sets[color][kind]
				}
			}
			checkSet(t, "a color's six sets", p, made, sets[color][0])
		}
		checkSet(t, "both colors' sets", p, sets[0][0]|sets[1][0], board.All(p))
		checkSet(t, "both colors at once", p, sets[0][0]&sets[1][0], 0)
		for s := range api.Squares {
			in := 0
			for color := range 2 {
				for kind := 1; kind < 7; kind++ {
					in += int(sets[color][kind] >> s & 1)
				}
			}
			checkNumber(t, "sets that have the square", s, in, int(board.All(p)>>s&1))
		}
	}
}

func TestPartsAreCounted(t *testing.T) {
	for _, p := range boards() {
		all := 0
		for color := range uint8(2) {
			of := 0
			for kind := uint8(1); kind < 7; kind++ {
				of += board.Count(p, color, kind)
			}
			checkNumber(t, "Count of all kinds", int(color), board.Count(p, color, 0), of)
			all += of
		}
		checkNumber(t, "Count of both colors", 2, bits.OnesCount64(board.All(p)), all)
	}
}

// P6.6

func TestWhatWasPutStandsAndIsFound(t *testing.T) {
	for _, p := range boards() {
		for s := range api.Squares {
			for _, man := range men {
				q := board.Put(p, s, man)
				color, kind, _ := colorAndKind(man)
				checkNumber(t, "At of what was put", s, int(board.At(q, s)), int(man))
				checkSet(t, "Of what was put", q, board.Of(q, color, kind)>>s&1, 1)
				if found := board.Find(q, color, kind); found < 0 || found > s {
					t.Errorf("Find of %d that was put on %d: %d", man, s, found)
				}
			}
			swept := board.Put(p, s, 0)
			checkNumber(t, "At of what was swept off", s, int(board.At(swept, s)), 0)
			checkSet(t, "All without it", swept, board.All(swept), board.All(p)&^(1<<s))
		}
	}
}

func TestPutIsFoundAlone(t *testing.T) {
	for _, man := range men {
		color, kind, _ := colorAndKind(man)
		for s := range api.Squares {
			q := board.Put(api.Position{}, s, man)
			checkNumber(t, "Find", s, board.Find(q, color, kind), s)
			checkSet(t, "All", q, board.All(q), 1<<s)
		}
	}
}

func TestPutLeavesAllOtherSquares(t *testing.T) {
	for _, p := range boards() {
		for s := range api.Squares {
			q := board.Put(p, s, men[s%12])
			for at := range api.Squares {
				if at != s && (board.At(q, at) != board.At(p, at) || q.Board[at] != p.Board[at]) {
					t.Errorf("Put on %d: on %d %d, not %d", s, at, q.Board[at], p.Board[at])
				}
			}
			checkSet(t, "All but it", q, board.All(q)&^(1<<s), board.All(p)&^(1<<s))
		}
	}
}

// A board of pieces put one by one, last first, is the board.
func TestPutOneByOne(t *testing.T) {
	d := dice(66)
	for range 20 {
		p := d.filled(0)
		q := p
		q.Board = [64]uint8{}
		for s := 63; s >= 0; s-- {
			q = board.Put(q, s, p.Board[s])
		}
		checkPosition(t, "put one by one", q, p)
	}
}

// P6.7

func TestMirrorOfMirror(t *testing.T) {
	d := dice(67)
	for _, p := range []api.Position{{}, first(), {Turn: 1}, {Turn: 9, Passing: 100}} {
		checkPosition(t, "Mirror of Mirror", board.Mirror(board.Mirror(p)), p)
	}
	for range 400 {
		p := d.filled(0)
		checkPosition(t, "Mirror of Mirror", board.Mirror(board.Mirror(p)), p)
	}
}

// With strangers on it, all comes back but these.
func TestMirrorOfMirrorWithStrangers(t *testing.T) {
	d := dice(68)
	for i := range 100 {
		p := d.filled(1 + i%10)
		want := p
		for s, number := range p.Board {
			if _, _, ok := colorAndKind(number); !ok {
				want.Board[s] = 0
			}
		}
		checkPosition(t, "Mirror of Mirror", board.Mirror(board.Mirror(p)), want)
	}
}

func TestMirrorExchangesTheSets(t *testing.T) {
	for _, p := range boards() {
		m := board.Mirror(p)
		for color := range uint8(2) {
			for kind := range uint8(7) {
				checkSet(t, "Of the other color", m, board.Of(m, 1-color, kind), bits.ReverseBytes64(board.Of(p, color, kind)))
				checkNumber(t, "Count of the other color", int(kind), board.Count(m, 1-color, kind), board.Count(p, color, kind))
			}
		}
		checkSet(t, "All", m, board.All(m), bits.ReverseBytes64(board.All(p)))
	}
}

// What is handed in

func TestPositionIsLeftAsItWas(t *testing.T) {
	d := dice(69)
	for i := range 20 {
		p := d.filled(i % 5)
		had := p
		for s := -2; s < 66; s++ {
			board.At(p, s)
			board.Put(p, s, 5)
			board.Put(p, s, 0)
			board.Put(p, s, 7)
		}
		for color := range uint8(3) {
			for kind := range uint8(8) {
				board.Of(p, color, kind)
				board.Find(p, color, kind)
				board.Count(p, color, kind)
			}
		}
		board.All(p)
		m := board.Mirror(p)
		m.Board[0]++
		m.Pockets[0][0]++
		m.Rooks[1][1]++
		checkPosition(t, "handed in", p, had)
	}
}

// The same call tells the same, whatever was asked in between.
func TestNothingIsKept(t *testing.T) {
	d := dice(70)
	p, q := d.filled(1), d.filled(3)
	of, all, find, m := board.Of(p, 1, 0), board.All(p), board.Find(p, 0, 3), board.Mirror(p)
	board.Of(q, 1, 0)
	board.Mirror(board.Put(q, 9, 9))
	if board.Of(p, 1, 0) != of || board.All(p) != all || board.Find(p, 0, 3) != find || board.Mirror(p) != m {
		t.Errorf("asked again, it is told otherwise")
	}
}
