package drop_test

import (
	"slices"
	"strconv"
	"testing"

	"kibitzer/api"
	"kibitzer/drop"
	"kibitzer/rules"
)

// P15.2

// checkHeld holds Held of both colors, and of those that there aren't, and Men against the numbers that the test wants.
func checkHeld(t *testing.T, what string, p api.Position, white, black, onBoard int) {
	t.Helper()
	for color := range 256 {
		want := 0
		switch color {
		case 0:
			want = white
		case 1:
			want = black
		}
		if got := drop.Held(p, uint8(color)); got != want {
			t.Errorf("%s: Held of the color %d: %d, not %d: %+v", what, color, got, want, p)
		}
	}
	if got, want := drop.Men(p), white+black+onBoard; got != want {
		t.Errorf("%s: Men: %d, not %d: %+v", what, got, want, p)
	}
}

func TestHeldOfEachKindAlone(t *testing.T) {
	for v := range uint8(12) {
		for _, kind := range held {
			for n := range 256 {
				what := strconv.Itoa(n) + " of the kind " + strconv.Itoa(int(kind))
				checkHeld(t, what, holding(bare(v, 0), 0, uint8(n), kind), n, 0, 0)
				checkHeld(t, what, holding(bare(v, 1), 1, uint8(n), kind), 0, n, 0)
			}
		}
	}
}

func TestHeldOfAllKinds(t *testing.T) {
	p := bare(api.Crazyhouse, 0)
	p.Pockets = [2][6]uint8{{0, 1, 2, 4, 8, 16}, {0, 100, 0, 100, 0, 100}}
	checkHeld(t, "unlike pockets", p, 31, 300, 0)
	p.Pockets = [2][6]uint8{{0, 255, 255, 255, 255, 255}, {0, 255, 255, 255, 255, 255}}
	checkHeld(t, "full pockets", p, 1275, 1275, 0)
	p.Pockets = [2][6]uint8{{0, 255, 255, 255, 255, 255}, {}}
	checkHeld(t, "White's is full", p, 1275, 0, 0)
	p.Pockets = [2][6]uint8{}
	checkHeld(t, "empty pockets", p, 0, 0, 0)
}

// A pocket's place of no kind at all holds nothing.
func TestHeldOfNoKind(t *testing.T) {
	for _, n := range counts {
		p := bare(api.Crazyhouse, 0)
		p.Pockets = [2][6]uint8{{n}, {n}}
		checkHeld(t, "no kind alone", p, 0, 0, 0)
		p.Pockets = [2][6]uint8{{n, 1}, {n, 0, 0, 0, 0, 2}}
		checkHeld(t, "no kind beside others", p, 1, 2, 0)
	}
}

func TestMenOnBoard(t *testing.T) {
	p := bare(api.Crazyhouse, 0)
	checkHeld(t, "an empty board", p, 0, 0, 0)
	checkHeld(t, "a full board", covered(p, men...), 0, 0, 64)
	checkHeld(t, "numbers that are no pieces", covered(p, strangers...), 0, 0, 0)
	checkHeld(t, "a king and a number that is no piece, by turns", covered(p, 14, 7), 0, 0, 32)
	full := holding(holding(covered(p, men...), 0, 255, held...), 1, 255, held...)
	checkHeld(t, "all full", full, 1275, 1275, 64)
	full.Promoted = 1<<64 - 1
	checkHeld(t, "all full, all promoted", full, 1275, 1275, 64)
}

func TestMenOfEachNumberOnEachSquare(t *testing.T) {
	for number := range 256 {
		onBoard := 0
		if slices.Contains(men, uint8(number)) {
			onBoard = 1
		}
		for s := range 64 {
			p := holding(bare(api.Crazyhouse, 0), 0, 3, api.Rook)
			p.Board[s] = uint8(number)
			if got := drop.Men(p); got != 3+onBoard {
				t.Errorf("Men with %d on %d: %d", number, s, got)
			}
		}
	}
}

// A mark adds no man, on a piece or on nothing.
func TestMenPromoted(t *testing.T) {
	for _, promoted := range []uint64{0, 1, 1 << 63, 0xffff, 1<<64 - 1} {
		for v := range api.Variants {
			p, _ := rules.Start(v)
			n := 32
			if v == api.Horde {
				n = 52
			} else if v == api.Racing {
				n = 16
			}
			p.Promoted = promoted
			checkHeld(t, rules.Name(v), p, 0, 0, n)
		}
	}
}

// Whoever is to move, in whatever variant, if it is one or not.
func TestHeldOfPositionsOfAllSorts(t *testing.T) {
	d := dice(152)
	for i := range 4000 {
		p := d.filled(uint8(d.next()), uint8(d.next()), i%17, i/17%4)
		white, black, onBoard := 0, 0, 0
		for _, kind := range held {
			white += int(p.Pockets[0][kind])
			black += int(p.Pockets[1][kind])
		}
		for _, number := range p.Board {
			if slices.Contains(men, number) {
				onBoard++
			}
		}
		checkHeld(t, "a filled position", p, white, black, onBoard)
	}
}
