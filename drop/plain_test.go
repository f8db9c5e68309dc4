package drop_test

import (
	"math/bits"
	"slices"
	"testing"

	"kibitzer/api"
	"kibitzer/drop"
)

// men are the numbers of all pieces there are.
var men = []uint8{1, 2, 3, 4, 5, 6, 9, 10, 11, 12, 13, 14}

// strangers are numbers above 0 that are no pieces: between and beside those of pieces, and such as have a piece's number in their lower bits.
var strangers = []uint8{7, 8, 15, 16, 17, 22, 23, 24, 25, 30, 31, 32, 64, 65, 127, 128, 129, 137, 142, 249, 254, 255}

// held are the kinds that a pocket holds.
var held = []uint8{1, 2, 3, 4, 5}

// counts are how many of a kind a pocket holds, at its ends and between them.
var counts = []uint8{0, 1, 2, 7, 127, 128, 254, 255}

// at is the square of a text that is one's.
func at(text string) int { return int(text[0]-'a') + 8*int(text[1]-'1') }

// bare is a position of the variant and the Turn with nothing on its board.
func bare(v, turn uint8) api.Position {
	return api.Position{Variant: v, Turn: turn, Passing: -1, Rooks: [2][2]int8{{-1, -1}, {-1, -1}}, Full: 1}
}

// covered is the position with one of the numbers on each square, one behind the other.
func covered(p api.Position, numbers ...uint8) api.Position {
	for s := range p.Board {
		p.Board[s] = numbers[s%len(numbers)]
	}
	return p
}

// holding is the position with so many of each of the kinds in the color's pocket.
func holding(p api.Position, color, n uint8, kinds ...uint8) api.Position {
	for _, kind := range kinds {
		p.Pockets[color][kind] = n
	}
	return p
}

// dropped is the move by which the kind comes to the square.
func dropped(kind uint8, s int) api.Move { return api.Move{From: int8(s), To: int8(s), Drop: kind} }

// plainList are the drops of the position, point by point of the chapter's words.
func plainList(p api.Position) []api.Move {
	if p.Variant != 2 || p.Turn > 1 {
		return nil
	}
	var l []api.Move
	for _, kind := range held {
		for s, number := range p.Board {
			if rank := s / 8; p.Pockets[p.Turn][kind] == 0 || slices.Contains(men, number) || kind == 1 && (rank == 0 || rank == 7) {
				continue
			}
			l = append(l, dropped(kind, s))
		}
	}
	return l
}

// check holds what is told of the position against what is reckoned plainly, of which there are so many.
func check(t *testing.T, what string, p api.Position, n int) {
	t.Helper()
	if plain := len(plainList(p)); plain != n {
		t.Fatalf("%s: the test wants %d drops, plainly there are %d: %+v", what, n, plain, p)
	}
	checkPlainly(t, what, p)
}

// checkPlainly holds what is told of the position against what is reckoned plainly, and tells how many drops there are.
func checkPlainly(t *testing.T, what string, p api.Position) int {
	t.Helper()
	want := plainList(p)
	if got := drop.List(p); !slices.Equal(got, want) {
		t.Errorf("%s: List %v, not %v: %+v", what, got, want, p)
	}
	return len(want)
}

// dice tell numbers without order, the same ones in each run.
type dice uint64

func (d *dice) next() uint64 {
	*d = *d*6364136223846793005 + 1442695040888963407
	return bits.RotateLeft64(uint64(*d^*d>>29), 17)
}

func (d *dice) below(n int) int { return int((d.next() >> 33) % uint64(n)) }

func (d *dice) oneOf(list []uint8) uint8 { return list[d.below(len(list))] }

// filled is a position of the variant and the Turn with every field set in some way, its board with about so many men of sixteen squares, and as many strangers.
func (d *dice) filled(v, turn uint8, thick, strange int) api.Position {
	p := api.Position{
		Variant:  v,
		Turn:     turn,
		Promoted: d.next(),
		Rooks:    [2][2]int8{{int8(d.next()), int8(d.next())}, {int8(d.next()), int8(d.next())}},
		Passing:  int8(d.next()),
		Checks:   [2]uint8{uint8(d.next()), uint8(d.next())},
		Half:     int(d.next()),
		Full:     int(d.next()),
	}
	for s := range p.Board {
		switch by := d.below(16); {
		case by < thick:
			p.Board[s] = d.oneOf(men)
		case by < thick+strange:
			p.Board[s] = d.oneOf(strangers)
		}
	}
	for color := range p.Pockets {
		for kind := range p.Pockets[color] {
			if d.below(2) == 0 {
				p.Pockets[color][kind] = d.oneOf(counts)
			}
		}
	}
	return p
}

// mixed are positions of the variant, from nearly empty ones to full ones, of both Turns.
func mixed(v uint8) []api.Position {
	var l []api.Position
	d := dice(15)
	for i := range 2000 {
		l = append(l, d.filled(v, uint8(i%2), i%17, i/17%4))
	}
	return l
}
