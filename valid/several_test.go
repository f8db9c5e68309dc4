package valid_test

import (
	"fmt"
	"math"
	"slices"
	"testing"

	"kibitzer/api"
	"kibitzer/rules"
	"kibitzer/valid"
)

// fault makes one thing wrong, whatever else is.
type fault struct {
	e    api.Errno
	make func(p *api.Position)
}

// sparse is a position of the variant in which each fault makes just its own error: Black's king in a corner, White's in another one, if it has one.
func sparse(v uint8) api.Position {
	if v == api.Horde {
		return placed(v, api.White, "Pa2 kh8 bg8")
	}
	return placed(v, api.White, "Ka1 kh8 bg8")
}

// faults are those of a variant, White to move, in the order of the list.
func faults(v uint8) []fault {
	set := func(s string) func(p *api.Position) {
		return func(p *api.Position) { *p = with(*p, s) }
	}
	l := []fault{{api.ErrClocks, func(p *api.Position) { p.Half = -1 }}}
	if v != api.Antichess {
		l = append(l, fault{api.ErrKings, set("kd8")})
	}
	l = append(l,
		fault{api.ErrPawns, set("pc1")},
		fault{api.ErrPockets, func(p *api.Position) { p.Pockets[0][0] = 1 }},
		fault{api.ErrRooks, func(p *api.Position) { p.Rooks[1][1] = 0 }},
		fault{api.ErrPassing, func(p *api.Position) { p.Passing = 43 }},
	)
	if v != api.Antichess {
		// Black's first king is on d8, if there is a second one, else on h8.
		l = append(l, fault{api.ErrCheck, set("Ne6 Nf7")})
	}
	return l
}

// Every choice of faults, of each variant, in the order of the list.
func TestSeveralFaults(t *testing.T) {
	for v := range api.Variants {
		list := faults(v)
		for chosen := range 1 << len(list) {
			p := sparse(v)
			var want []api.Errno
			for i, f := range list {
				if chosen>>i&1 == 1 {
					f.make(&p)
					want = append(want, f.e)
				}
			}
			check(t, "several faults", p, want)
			// Made in the other order they are told in the same one.
			q := sparse(v)
			for i := range list {
				if j := len(list) - 1 - i; chosen>>j&1 == 1 {
					list[j].make(&q)
				}
			}
			check(t, "several faults, the last one first", q, want)
		}
	}
}

// strange makes a number one that there isn't.
func strange() []func(p *api.Position) {
	return []func(p *api.Position){
		func(p *api.Position) { p.Variant = 9 },
		func(p *api.Position) { p.Turn = 2 },
		func(p *api.Position) { p.Board[20] = 7 },
		func(p *api.Position) { p.Board[63] = 15 },
		func(p *api.Position) { p.Passing = -2 },
		func(p *api.Position) { p.Passing = 64 },
		func(p *api.Position) { p.Rooks[0][0] = -2 },
		func(p *api.Position) { p.Rooks[1][1] = 8 },
		func(p *api.Position) { p.Rooks[0][1] = math.MaxInt8 },
		func(p *api.Position) { p.Checks[0] = 4 },
		func(p *api.Position) { p.Checks[1] = 255 },
	}
}

// Beside other errors ErrArg is the only one, and nothing is mended.
func TestArgBesideOthers(t *testing.T) {
	for v := range api.Variants {
		list := faults(v)
		for chosen := range 1 << len(list) {
			for i, makeStrange := range strange() {
				p := sparse(v)
				for j, f := range list {
					if chosen>>j&1 == 1 {
						f.make(&p)
					}
				}
				makeStrange(&p)
				check(t, fmt.Sprint("strange ", i), p, alone(api.ErrArg))
				if got := valid.Mend(p); got != p {
					t.Errorf("Mend of what has ErrArg: %+v, not %+v", got, p)
				}
			}
		}
	}
}

func TestTheZeroPosition(t *testing.T) {
	p := api.Position{}
	check(t, "zero", p, []api.Errno{api.ErrClocks, api.ErrKings, api.ErrRooks, api.ErrPassing})
	want := api.Position{Rooks: [2][2]int8{{-1, -1}, {-1, -1}}, Passing: -1, Full: 1}
	if got := valid.Mend(p); got != want {
		t.Errorf("Mend of the zero position: %+v", got)
	}
}

// The errors' numbers are the chapter's.
func TestNumbersOfErrors(t *testing.T) {
	p := sparse(api.Standard)
	for i, want := range []int{125, 120, 121, 122, 123, 124, 126} {
		q := p
		faults(api.Standard)[i].make(&q)
		if got := valid.Check(q); int(got) != want {
			t.Errorf("Check: %d, not %d", got, want)
		}
	}
	p.Turn = 2
	if got := valid.Check(p); int(got) != 2 {
		t.Errorf("Check: %d, not 2", got)
	}
}

// P0.4: what All tells is new memory.
func TestAllIsNew(t *testing.T) {
	p := api.Position{}
	l := valid.All(p)
	for i := range l[:cap(l)] {
		l[:cap(l)][i] = api.ErrFull
	}
	check(t, "behind a change", p, []api.Errno{api.ErrClocks, api.ErrKings, api.ErrRooks, api.ErrPassing})
}

// P12.4

func TestFirstPositions(t *testing.T) {
	for v := range api.Variants {
		p, _ := rules.Start(v)
		check(t, "first position", p, fine)
	}
	for n := range 960 {
		p, _ := rules.Start960(n)
		check(t, fmt.Sprint("chess960's ", n), p, fine)
	}
}

// The pieces of chess960's first positions in another variant keep the rights that chess has.
func TestFirstPositionsOfOtherVariants(t *testing.T) {
	for n := range 960 {
		for v := range api.Variants {
			p, _ := rules.Start960(n)
			p.Variant = v
			checkPlainly(t, fmt.Sprint("chess960's ", n), p)
		}
	}
	usual, _ := rules.Start960(518)
	usual.Variant = api.Standard
	check(t, "518", usual, fine)
	other, _ := rules.Start960(0)
	other.Variant = api.Standard
	check(t, "0", other, alone(api.ErrRooks))
}

// One thing of a first position changed at a time.
func TestNearFirstPositions(t *testing.T) {
	for v := range api.Variants {
		start, _ := rules.Start(v)
		for s := range 64 {
			for _, n := range append(slices.Clone(men), 0) {
				for turn := range uint8(2) {
					p := start
					p.Board[s], p.Turn = n, turn
					checkPlainly(t, "near a first position", p)
				}
			}
		}
	}
}

// filled is a position of a few or of many pieces, with any numbers that there are in its other fields, and some just outside.
func (d *dice) filled(thick int) api.Position {
	p := placed(uint8(d.below(9)), uint8(d.below(2)), "")
	for s := range p.Board {
		if d.below(16) < thick {
			p.Board[s] = men[d.below(len(men))]
			if p.Board[s]%8 == 6 {
				p.Board[s] = 0
			}
		}
	}
	p.Board[d.below(64)] = 6
	p.Board[d.below(64)] = 14
	for i := range 4 {
		if d.below(3) == 0 {
			p.Rooks[i/2][i%2] = int8(d.below(10) - 1)
		}
	}
	if d.below(2) == 0 {
		p.Passing = int8(d.below(66) - 1)
	}
	if d.below(4) == 0 {
		p.Promoted = d.next() & d.next() & d.next() & d.next()
	}
	if d.below(4) == 0 {
		p.Pockets[d.below(2)][d.below(6)] = uint8(d.below(34))
	}
	if d.below(8) == 0 {
		p.Checks[d.below(2)] = uint8(d.below(5))
	}
	p.Half, p.Full = d.below(10004)-2, d.below(10004)-1
	return p
}

func TestFilledPositions(t *testing.T) {
	d := dice(12)
	for i := range 60000 {
		checkPlainly(t, "filled", d.filled(1+i%10))
	}
}

// P0.1: any numbers whatever in every field.
func TestAnyNumbers(t *testing.T) {
	d := dice(99)
	for i := range 20000 {
		p := d.filled(i % 10)
		for range 1 + d.below(3) {
			switch n := d.next() >> 20; d.below(9) {
			case 0:
				p.Variant = uint8(n)
			case 1:
				p.Turn = uint8(n)
			case 2:
				p.Board[d.below(64)] = uint8(n)
			case 3:
				p.Passing = int8(n)
			case 4:
				p.Rooks[d.below(2)][d.below(2)] = int8(n)
			case 5:
				p.Checks[d.below(2)] = uint8(n)
			case 6:
				p.Half, p.Full = int(d.next()), int(d.next())
			case 7:
				p.Pockets[d.below(2)][d.below(6)] = uint8(n)
			case 8:
				p.Promoted = d.next()
			}
		}
		checkPlainly(t, "any numbers", p)
	}
}

// Rights and passing squares that may be, and nearly may be, on boards that are filled else.
func TestFilledHomesAndPassing(t *testing.T) {
	d := dice(1212)
	kept, passed := 0, 0
	for i := range 60000 {
		p := d.filled(i % 5)
		for color := range 2 {
			king := 4
			if p.Variant == api.Chess960 {
				king = d.below(8)
			}
			for side := range 2 {
				rook := 7 - 7*side
				if p.Variant == api.Chess960 || d.below(8) == 0 {
					rook = d.below(8)
				}
				p.Board[square(color, rook)] = uint8(8*color + 4)
				p.Rooks[color][side] = int8(rook)
			}
			if d.below(8) != 0 {
				p.Board[square(color, king)] = uint8(8*color + 6)
			}
		}
		side := sides[p.Turn]
		s := 8*side.rank + d.below(8)
		p.Passing = int8(s)
		p.Board[s], p.Board[s+side.up], p.Board[s-side.up] = 0, 0, side.theirs
		if by := s%8 + 2*d.below(2) - 1; by >= 0 && by < 8 && d.below(4) != 0 {
			p.Board[8*(s/8)-side.up+by] = side.own
		}
		if d.below(8) == 0 {
			p.Board[d.below(64)] = 0
		}
		checkPlainly(t, "filled", p)
		mended := valid.Mend(p)
		if mended.Rooks != [2][2]int8{{-1, -1}, {-1, -1}} {
			kept++
		}
		if mended.Passing != -1 {
			passed++
		}
	}
	if kept < 10000 || passed < 10000 {
		t.Errorf("the test looks at too little: %d rights, %d passing squares are kept", kept, passed)
	}
}
