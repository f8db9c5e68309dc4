package legal_test

import (
	"math/bits"
	"sync"

	"kibitzer/after"
	"kibitzer/api"
	"kibitzer/rules"
)

// dice tell numbers without order, the same ones in each run.
type dice uint64

func (d *dice) next() uint64 {
	*d = *d*6364136223846793005 + 1442695040888963407
	return bits.RotateLeft64(uint64(*d^*d>>29), 17)
}

func (d *dice) below(n int) int { return int((d.next() >> 33) % uint64(n)) }

func oneOf[T any](d *dice, list ...T) T { return list[d.below(len(list))] }

// filled is a position of the variant with every field set in some way, its board with about so many men of sixteen squares. In most of them each color has just the king that it must have, often where it may castle, or where it wins.
func (d *dice) filled(v uint8, thick int) api.Position {
	p := api.Position{
		Variant:  v,
		Promoted: d.next() & d.next(),
		Turn:     uint8(d.below(2)),
		Passing:  int8(d.below(72) - 4),
		Checks:   [2]uint8{uint8(d.below(5)), uint8(d.below(5))},
		Half:     oneOf(d, 0, 1, 99, api.MaxClock-1, api.MaxClock),
		Full:     oneOf(d, 0, 1, 99, api.MaxClock-1, api.MaxClock),
		Rooks:    [2][2]int8{{-1, -1}, {-1, -1}},
	}
	anyKings := d.below(4) == 0
	for s := range p.Board {
		switch by := d.below(16); {
		case by < thick:
			p.Board[s] = oneOf(d, men...)
		case by == 15:
			p.Board[s] = oneOf(d, strangers...)
		}
		if p.Board[s]&7 == 6 && !anyKings {
			p.Board[s] = 0
		}
	}
	for color := range p.Rooks {
		for kind := range p.Pockets[color] {
			p.Pockets[color][kind] = oneOf[uint8](d, 0, 0, 0, 1, 2)
		}
		switch home := 56 * color; d.below(4) {
		case 0:
			p.Board[home+4], p.Board[home+7], p.Board[home] = uint8(8*color+6), uint8(8*color+4), uint8(8*color+4)
			p.Rooks[color] = [2]int8{7, 0}
		case 1:
			p.Board[oneOf(d, 27, 28, 35, 36, 56+d.below(8), 48+d.below(8))] = uint8(8*color + 6)
		default:
			p.Board[d.below(64)] = uint8(8*color + 6)
		}
	}
	if d.below(10) == 0 {
		d.bereave(&p)
	}
	return p
}

// bereave takes off all men of one color.
func (d *dice) bereave(p *api.Position) {
	color := uint8(d.below(2))
	for s, number := range p.Board {
		if isOf(number, color) {
			p.Board[s] = 0
		}
	}
}

// passing is a position in which a pawn may go to a passing square, and kings and what attacks them stand near its lines.
func (d *dice) passing(v uint8) api.Position {
	p := placed(v, "Pe5 pd5 =d6")
	for _, number := range []uint8{6, 14, oneOf(d, men[6:11]...), oneOf(d, men...), oneOf[uint8](d, 11, 12, 13)} {
		s := d.below(64)
		if p.Board[s] == 0 && s != 43 && s != 51 {
			p.Board[s] = number
		}
	}
	if d.below(2) > 0 {
		return turned(p)
	}
	return p
}

// mixed are positions of all variants, from nearly empty ones to full ones.
func mixed(n int) []api.Position {
	var l []api.Position
	d := dice(17)
	for i := range n {
		if v := uint8(i % 9); i/9%15 == 14 {
			l = append(l, d.passing(v))
		} else {
			l = append(l, d.filled(v, i/9%15))
		}
	}
	return l
}

// played are the positions of games that begin with the variants' first ones, a game of each in turn, where any move that plainly may be is made, and takes more often than others; the last one of a game that ends is one without moves.
var played = sync.OnceValue(func() []api.Position {
	var l []api.Position
	d := dice(171)
	for i := range 63 {
		p, _ := rules.Start(uint8(i % 9))
		if p.Variant == api.Chess960 {
			p, _ = rules.Start960(d.below(960))
		}
		for range 60 {
			l = append(l, p)
			list := plainList(p)
			if len(list) == 0 {
				break
			}
			m := oneOf(&d, list...)
			for range 2 {
				if !plainTakes(p, m) {
					m = oneOf(&d, list...)
				}
			}
			p, _ = after.Move(p, m)
		}
	}
	return l
})
