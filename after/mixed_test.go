package after_test

import (
	"math/bits"
	"testing"

	"kibitzer/after"
	"kibitzer/api"
	"kibitzer/rules"
)

// check holds the position behind the move against what the test wants of it, but for its clocks and Checks, and plain reckoning against both; so with White to move, and with Black, the board turned about.
func check(t *testing.T, what string, p api.Position, text string, want api.Position) {
	t.Helper()
	m := move(text)
	plain := plainMove(p, m)
	want.Turn, want.Half, want.Full, want.Checks = 1-p.Turn, plain.Half, plain.Full, plain.Checks
	if plain != want {
		t.Fatalf("%s, %s: the test wants\n%+v, plainly it is\n%+v", what, text, want, plain)
	}
	checkPlainly(t, what+", "+text, p, m)
	checkPlainly(t, what+", "+text+", turned", turned(p), turnedMove(m))
}

// behind makes the move of the text in the position that the texts tell, and holds what is behind it against the other ones, in these variants.
func behind(t *testing.T, in []uint8, texts, text, want string) {
	t.Helper()
	for _, v := range in {
		check(t, rules.Name(v)+": "+texts, placed(v, texts), text, placed(v, want))
	}
}

// checkPlainly holds the position behind a move that may be made against what is reckoned plainly.
func checkPlainly(t *testing.T, what string, p api.Position, m api.Move) {
	t.Helper()
	got, ok := after.Move(p, m)
	if want := plainMove(p, m); !ok || got != want {
		t.Errorf("%s: Move of %+v, %v:\n%+v, not\n%+v, behind\n%+v", what, m, ok, got, want, p)
	}
}

// checkAll does so for all of the position's moves, and tells how many these are.
func checkAll(t *testing.T, what string, p api.Position) int {
	t.Helper()
	l := after.All(p)
	for _, m := range l {
		checkPlainly(t, what, p, m)
	}
	return len(l)
}

// checkRefused holds that the move isn't made, and the position is told as it is.
func checkRefused(t *testing.T, what string, p api.Position, m api.Move) {
	t.Helper()
	if got, ok := after.Move(p, m); ok || got != p {
		t.Errorf("%s: %+v, %v:\n%+v\n%+v", what, m, ok, got, p)
	}
}

// dice tell numbers without order, the same ones in each run.
type dice uint64

func (d *dice) next() uint64 {
	*d = *d*6364136223846793005 + 1442695040888963407
	return bits.RotateLeft64(uint64(*d^*d>>29), 17)
}

func (d *dice) below(n int) int { return int((d.next() >> 33) % uint64(n)) }

func oneOf[T any](d *dice, list ...T) T { return list[d.below(len(list))] }

// filled is a position of the variant with every field set in some way, its board with about so many men of sixteen squares; in most of them kings and rooks stand where rights may name them.
func (d *dice) filled(v uint8, thick int) api.Position {
	p := api.Position{
		Variant:  v,
		Promoted: d.next() & d.next(),
		Turn:     uint8(d.below(2)),
		Passing:  int8(d.below(72) - 4),
		Checks:   [2]uint8{uint8(d.below(4)), uint8(d.below(4))},
		Half:     oneOf(d, 0, 1, 99, api.MaxClock-1, api.MaxClock),
		Full:     oneOf(d, 0, 1, 99, api.MaxClock-1, api.MaxClock),
	}
	for s := range p.Board {
		switch by := d.below(16); {
		case by < thick:
			p.Board[s] = oneOf(d, men...)
		case by == 15:
			p.Board[s] = oneOf(d, strangers...)
		}
	}
	for color := range p.Rooks {
		for kind := range p.Pockets[color] {
			p.Pockets[color][kind] = oneOf[uint8](d, 0, 0, 1, 2, 254, 255)
		}
		for side := range p.Rooks[color] {
			p.Rooks[color][side] = oneOf[int8](d, -128, -2, -1, 0, 1, 2, 3, 4, 5, 6, 7, 8, 64, 127)
		}
		if d.below(4) > 0 {
			d.settle(&p, color)
		}
	}
	return p
}

// settle gives the color a king at home and rooks there that its rights name, on a home with room between them.
func (d *dice) settle(p *api.Position, color int) {
	home, king := 56*color, 1+d.below(6)
	for file := range 8 {
		if d.below(3) > 0 {
			p.Board[home+file] = 0
		}
	}
	files := [2]int{king + 1 + d.below(7-king), d.below(king)}
	p.Board[home+king] = uint8(8*color + 6)
	for side, file := range files {
		p.Board[home+file], p.Rooks[color][side] = uint8(8*color+4), int8(file)
	}
}

// mixed are positions of all variants, from nearly empty ones to full ones.
func mixed(n int) []api.Position {
	var l []api.Position
	d := dice(16)
	for i := range n {
		l = append(l, d.filled(uint8(i%9), i/9%14))
	}
	return l
}

// played are the positions of ways that begin with the variants' first ones, where any of the moves is made, and takes more often than others.
func played(ways, moves int) []api.Position {
	var l []api.Position
	d := dice(161)
	for i := range ways {
		p, _ := rules.Start(uint8(i % 9))
		if p.Variant == api.Chess960 {
			p, _ = rules.Start960(d.below(960))
		}
		for range moves {
			l = append(l, p)
			all := after.All(p)
			if len(all) == 0 {
				break
			}
			m := oneOf(&d, all...)
			for range 2 {
				if plainTaken(p, m) < 0 {
					m = oneOf(&d, all...)
				}
			}
			p, _ = after.Move(p, m)
		}
	}
	return l
}
