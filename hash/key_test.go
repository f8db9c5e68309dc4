package hash_test

import (
	"math"
	"testing"

	"kibitzer/api"
	"kibitzer/hash"
	"kibitzer/rules"
)

// P9.3

func checkKey(t *testing.T, p api.Position) {
	t.Helper()
	if got, want := hash.Key(p), plainKey(p); got != want {
		t.Errorf("Key: %x, not %x: %+v", got, want, p)
	}
}

// bare has none of the parts but that of its variant, which is left for who asks.
func bare() api.Position {
	return api.Position{Rooks: [2][2]int8{{-1, -1}, {-1, -1}}, Passing: -1}
}

func TestKnownKeys(t *testing.T) {
	standard, _ := rules.Start(api.Standard)
	crazy, _ := rules.Start(api.Crazyhouse)
	moved := standard
	moved.Board[12], moved.Board[28], moved.Turn = 0, 1, 1
	for _, c := range []struct {
		name string
		p    api.Position
		want uint64
	}{
		{"zero", api.Position{}, hash.Part(3, 0) ^ hash.Part(4, 0) ^ hash.Part(4, 16) ^ hash.Part(4, 32) ^ hash.Part(4, 48) ^ hash.Part(8, 0)},
		{"bare", bare(), 0xBAEFE5AD32669E7C},
		{"standard", standard, 0xD3C450DFA0E417E7},
		{"e4", moved, 0x08CE0110774891F0},
		{"crazyhouse", crazy, 0x436F99F44C41EDFD},
	} {
		check(t, hash.Key(c.p), c.want, "Key: "+c.name)
	}
}

func TestKeysOfFirstPositions(t *testing.T) {
	for v := range api.Variants {
		p, _ := rules.Start(v)
		checkKey(t, p)
	}
	for n := range 960 {
		p, _ := rules.Start960(n)
		checkKey(t, p)
	}
}

func TestKeysOfAnyPositions(t *testing.T) {
	d := dice(93)
	for n := range 3000 {
		checkKey(t, d.filled(uint8(n)%(api.Variants+2)))
		checkKey(t, d.wild())
	}
}

// TestKeyOfOnePart: each row of the table alone, in a position that has no other.
func TestKeyOfOnePart(t *testing.T) {
	for v := range 256 {
		p := bare()
		p.Variant = uint8(v)
		check(t, hash.Key(p), plainPart(8, v), "Key: variant", v)
	}
	for n := range 256 {
		for s := range 64 {
			p := bare()
			p.Board[s] = uint8(n)
			checkKey(t, p)
		}
		for _, change := range changes() {
			p := bare()
			change.set(&p, uint8(n))
			checkKey(t, p)
		}
	}
}

// P9.4

// change is one thing of a position: how it is set to a number, and the part that a call of the layer tells of it.
type change struct {
	name string
	set  func(p *api.Position, n uint8)
	part func(p api.Position) uint64
}

// changes are all things of a position but the squares of its board and its clocks.
func changes() []change {
	l := []change{
		{"turn", func(p *api.Position, n uint8) { p.Turn = n }, func(p api.Position) uint64 { return hash.Turn(p.Turn) }},
		{"passing", func(p *api.Position, n uint8) { p.Passing = int8(n) }, func(p api.Position) uint64 { return hash.Passing(int(p.Passing)) }},
		{"promoted", func(p *api.Position, n uint8) { p.Promoted ^= 1 << (n % 64) }, func(p api.Position) uint64 { return hash.Promoted(p.Promoted) }},
		{"variant", func(p *api.Position, n uint8) { p.Variant = n }, func(p api.Position) uint64 { return hash.Part(8, int(p.Variant)) }},
	}
	for c := range uint8(2) {
		l = append(l, change{"checks", func(p *api.Position, n uint8) { p.Checks[c] = n }, func(p api.Position) uint64 { return hash.Checks(c, p.Checks[c]) }})
		for side := range 2 {
			l = append(l, change{"rooks", func(p *api.Position, n uint8) { p.Rooks[c][side] = int8(n) }, func(p api.Position) uint64 { return hash.Rook(c, side, int(p.Rooks[c][side])) }})
		}
		for k := range uint8(6) {
			l = append(l, change{"pockets", func(p *api.Position, n uint8) { p.Pockets[c][k] = n }, func(p api.Position) uint64 { return hash.Pocket(c, k, p.Pockets[c][k]) }})
		}
	}
	return l
}

// settled are positions in which one thing is changed: first ones, one with no parts, filled ones.
func settled() []api.Position {
	d := dice(94)
	l := []api.Position{bare(), {}}
	for v := range api.Variants {
		p, _ := rules.Start(v)
		l = append(l, p, d.filled(v))
	}
	return append(l, d.wild(), d.wild())
}

func TestStepByStep(t *testing.T) {
	for _, old := range settled() {
		for _, c := range changes() {
			for n := range 256 {
				p := old
				c.set(&p, uint8(n))
				check(t, hash.Key(p), hash.Key(old)^c.part(old)^c.part(p), "Key: "+c.name, n)
			}
		}
	}
}

func TestStepByStepOnTheBoard(t *testing.T) {
	for _, old := range settled() {
		key := hash.Key(old)
		for s, was := range old.Board {
			for n := range 256 {
				p := old
				p.Board[s] = uint8(n)
				check(t, hash.Key(p), key^hash.Piece(was, s)^hash.Piece(uint8(n), s), "Key: a square and a piece", s, n)
			}
		}
	}
}

// TestWay: a long way of changes, whose number is brought along step by step, ends where the whole position's is.
func TestWay(t *testing.T) {
	d, l := dice(95), changes()
	p := bare()
	key := hash.Key(p)
	for range 5000 {
		s, n := d.below(64), d.byte()%16
		key ^= hash.Piece(p.Board[s], s) ^ hash.Piece(n, s)
		p.Board[s] = n
		c := l[d.below(len(l))]
		key ^= c.part(p)
		c.set(&p, d.byte()%16)
		key ^= c.part(p)
		check(t, hash.Key(p), key, "Key: a step", s, int(n))
	}
}

// P9.5

func TestClocks(t *testing.T) {
	clocks := []int{0, 1, 2, 49, 50, 99, 100, 149, api.MaxClock, api.MaxClock + 1, -1, -100, 1 << 32, math.MinInt, math.MaxInt}
	for _, old := range settled() {
		key := hash.Key(old)
		for _, half := range clocks {
			for _, full := range clocks {
				p := old
				p.Half, p.Full = half, full
				check(t, hash.Key(p), key, "Key: clocks", half, full)
			}
		}
	}
}
