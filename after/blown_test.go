package after_test

import (
	"math"
	"strconv"
	"testing"

	"kibitzer/after"
	"kibitzer/api"
)

var atomic = []uint8{api.Atomic}

// plainBlown are the squares that a take on that one empties.
func plainBlown(p api.Position, s int) uint64 {
	b := uint64(1) << s
	for near, number := range p.Board {
		if beside(near, s) && isMan(number) && number&7 != 1 {
			b |= 1 << near
		}
	}
	return b
}

// P16.2: takes of Atomic

func TestBlasts(t *testing.T) {
	for _, x := range []struct{ before, move, behind string }{
		// On the board's middle, at an edge, in a corner.
		{"Bh1 nd5 pc6 rd6 Pe6 qc5 Be5 kc4 Pd4 na7 Rd3", "h1d5", "pc6 Pe6 Pd4 na7 Rd3"},
		{"Bh1 nd5 pc6 pd6 pe6 pc5 pe5 pc4 pd4", "h1d5", "pc6 pd6 pe6 pc5 pe5 pc4 pd4"},
		{"Bh1 nd5 Kc6 Kd6 ke6 kc5 ke5 kc4 kd4", "h1d5", ""},
		{"Bh1 nd5 Nc6 Bd6 Re6 Qc5 ne5 bc4 rd4", "h1d5", ""},
		{"Bh1 pd5 Nd7 Bb5 Rf5 Qd3 nb7 bf7 rb3", "h1d5", "Nd7 Bb5 Rf5 Qd3 nb7 bf7 rb3"},
		{"Ra1 na4 pa5 rb5 Pb4 qb3 ka6 kc4 kh4 rh5 Nh3", "a1a4", "pa5 Pb4 ka6 kc4 kh4 rh5 Nh3"},
		{"Rh1 nh5 Kh6 kg6 pg5 Bg4 ka5 na6 qa4", "h1h5", "pg5 ka5 na6 qa4"},
		{"Qh8 na8 ka7 bb7 pb8 kh7", "h8c8", "Qc8 na8 ka7 bb7 pb8 kh7"},
		{"Nc2 na1 ka2 Bb2 pb1 Kh1 Rh2", "c2a1", "pb1 Kh1 Rh2"},
		{"Ng6 nh8 kh7 Bg7 Pg8 Ka8", "g6h8", "Pg8 Ka8"},
		{"Nf2 rh1 kh2 Kg1 Pg2 qa1 na2", "f2h1", "Pg2 qa1 na2"},
		{"Nb6 ra8 ka7 Kb7 pb8 qh8 nh7", "b6a8", "pb8 qh8 nh7"},
		{"Nc6 rb8 ka8 Kc8 pc7 Qb7 ba7 kd7", "c6b8", "pc7 kd7"},
		// Pawns that take are gone, too; so is what they would become, and what passed.
		{"Pe4 nd5 pd6 Pc5 Re5 ke6", "e4d5", "pd6 Pc5"},
		{"Pe7 nd8 kc8 pc7 Qd7 Re8 Kf8", "e7d8q", "pc7 Kf8"},
		{"Pe5 pd5 =d6 kd7 pe7 Nc5 Pc6 Kd4 ke6", "e5d6", "pe7 Pc6 Kd4"},
		{"Pe5 nd5 =d6 kc7", "e5d6", ""},
		{"Pe5 Nd5 =d6 kc7", "e5d6", ""},
		{"Pe5 =d6 kd7 pe7", "e5d6", "pe7"},
		// Who takes nothing stays.
		{"Qd1 nd6 kc5 Re6", "d1d5", "Qd5 nd6 kc5 Re6"},
		{"Pe7 nd8 kf8", "e7e8q", "Qe8 nd8 kf8"},
		{"Ke5 nd6 kf4", "e5e6", "Ke6 nd6 kf4"},
		{"Ke1 Rh1 >h1 kf2", "e1*h1", "Kg1 Rf1 kf2"},
		{"Pe5 kd7 =e6", "e5e6", "Pe6 kd7"},
	} {
		behind(t, atomic, x.before, x.move, x.behind)
	}
}

// Each kind of neighbour on each neighbouring square of each square, alone.
func TestEachNeighbour(t *testing.T) {
	for to := range 64 {
		from := to ^ 56 // on the same file
		for s := range 64 {
			for _, number := range append(men, strangers...) {
				p := placed(api.Atomic, "")
				p.Board[from], p.Board[to] = api.Queen, 8+api.Pawn
				if p.Board[s] != 0 || abs(s%8-to%8) > 2 || abs(s/8-to/8) > 2 {
					continue
				}
				p.Board[s] = number
				m := api.Move{From: int8(from), To: int8(to)}
				if s%8 == to%8 && (s > from) != (s > to) && isMan(number) {
					checkRefused(t, "in the way", p, m)
					continue
				}
				want := p
				want.Board[from], want.Board[to] = 0, 0
				if beside(s, to) && isMan(number) && number&7 != 1 {
					want.Board[s] = 0
				}
				got, ok := after.Move(p, m)
				if !ok || got.Board != want.Board {
					t.Errorf("%d on %d, a take on %d: %v, %v", number, s, to, ok, got.Board)
				}
				checkPlainly(t, "a neighbour", turned(p), turnedMove(m))
			}
		}
	}
}

// In no other variant anything blows up.
func TestNoBlastElsewhere(t *testing.T) {
	behind(t, []uint8{0, 1, 4, 5, 6, 7, 8}, "Bh1 nd5 pc6 rd6 Pe6 qc5 Be5 kc4", "h1d5", "Bd5 pc6 rd6 Pe6 qc5 Be5 kc4")
	behind(t, crazyhouse, "Bh1 nd5 pc6 rd6 Pe6 qc5 Be5 kc4", "h1d5", "Bd5 pc6 rd6 Pe6 qc5 Be5 kc4 @N")
}

// P16.3

func TestBlown(t *testing.T) {
	for i, p := range append(mixed(600), played(9, 30)...) {
		for s := range 64 {
			if got, want := after.Blown(p, s), plainBlown(p, s); got != want {
				t.Errorf("%d: on %d: %x, not %x: %+v", i, s, got, want, p)
			}
		}
	}
}

func TestBlownOfEachNumber(t *testing.T) {
	for number := range 256 {
		for v := range uint8(12) {
			p := api.Position{Variant: v, Turn: uint8(number) % 3}
			for s := range p.Board {
				p.Board[s] = uint8(number)
			}
			for s := range 64 {
				want := uint64(1) << s
				if isMan(uint8(number)) && number&7 != 1 {
					for near := range 64 {
						if beside(near, s) {
							want |= 1 << near
						}
					}
				}
				if got := after.Blown(p, s); got != want {
					t.Errorf("%d everywhere, on %d: %x, not %x", number, s, got, want)
				}
			}
		}
	}
}

func TestBlownExamples(t *testing.T) {
	set := func(squares ...string) uint64 {
		b := uint64(0)
		for _, s := range squares {
			b |= 1 << at(s)
		}
		return b
	}
	p := placed(api.Atomic, "Qd1 pd7 ke8 bc8 pc7 Nd6 ra7 Rh8 Kh6 nf7")
	for _, x := range []struct {
		s    string
		want uint64
	}{
		{"d7", set("d7", "e8", "c8", "d6")},
		{"a8", set("a8", "a7")},
		{"h7", set("h7", "h8", "h6")},
		{"a6", set("a6", "a7")},
		{"b7", set("b7", "a7", "c8")},
		{"c7", set("c7", "c8", "d6")},
		{"e7", set("e7", "e8", "d6", "f7")},
		{"h1", set("h1")},
		{"d1", set("d1")},
		{"c1", set("c1", "d1")},
	} {
		if got := after.Blown(p, at(x.s)); got != x.want {
			t.Errorf("%s: %x, not %x", x.s, got, x.want)
		}
	}
}

func TestBlownOfNoSquare(t *testing.T) {
	for _, p := range mixed(200) {
		for _, s := range []int{-1, -2, -8, -9, -64, 64, 65, 71, 72, 100, 127, 128, 255, 256, 284, 1 << 32, 1<<32 + 28, math.MinInt, math.MinInt + 28, math.MaxInt} {
			if got := after.Blown(p, s); got != 0 {
				t.Errorf("%s: %x", strconv.Itoa(s), got)
			}
		}
	}
}

// Behind a take of Atomic just those squares are empty that Blown tells, and the one from which it came; and what was taken in passing.
func TestBlownAreEmptyBehindATake(t *testing.T) {
	takes := 0
	for _, p := range append(mixed(9000), played(90, 60)...) {
		if p.Variant != api.Atomic {
			continue
		}
		for _, m := range after.All(p) {
			taken := plainTaken(p, m)
			if taken < 0 {
				continue
			}
			takes++
			got, _ := after.Move(p, m)
			gone := after.Blown(p, int(m.To)) | 1<<m.From | 1<<taken
			for s, number := range got.Board {
				if want := p.Board[s]; gone>>s&1 == 1 && number != 0 || gone>>s&1 == 0 && number != want {
					t.Errorf("%+v: %d on %d: %+v", m, number, s, p)
				}
			}
		}
	}
	if takes < 2000 {
		t.Errorf("%d takes are too few to tell much", takes)
	}
}
