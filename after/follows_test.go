package after_test

import (
	"math/bits"
	"strconv"
	"testing"

	"kibitzer/after"
	"kibitzer/api"
	"kibitzer/castle"
	"kibitzer/drop"
)

// lost is by how many fewer men there are behind the move.
func lost(p api.Position, m api.Move) int {
	taken := plainTaken(p, m)
	if taken < 0 {
		return 0
	}
	n := 0
	if isMan(p.Board[taken]) {
		n = 1
	}
	switch p.Variant {
	case api.Crazyhouse:
		return n - kept(p, taken)
	case api.Atomic:
		return n + blownUp(p, m, taken)
	}
	return n
}

// kept is 1, if what is taken comes into a pocket, else 0.
func kept(p api.Position, taken int) int {
	kind := p.Board[taken] & 7
	if p.Promoted>>taken&1 == 1 {
		kind = api.Pawn
	}
	if !isMan(p.Board[taken]) || kind == api.King || p.Pockets[p.Turn][kind] == 255 {
		return 0
	}
	return 1
}

// blownUp is how many go with what is taken: what takes, and what Blown tells of the neighbours, but for what takes, and what is taken.
func blownUp(p api.Position, m api.Move, taken int) int {
	return 1 + bits.OnesCount64(after.Blown(p, int(m.To))&^(1<<m.To|1<<m.From|1<<taken))
}

// P16.4

func TestMen(t *testing.T) {
	fewer := map[int]int{}
	for i, p := range append(mixed(3600), played(36, 60)...) {
		for _, m := range after.All(p) {
			got, _ := after.Move(p, m)
			n := lost(p, m)
			if drop.Men(got) != drop.Men(p)-n {
				t.Errorf("%d: %+v: %d men, not %d: %+v", i, m, drop.Men(got), drop.Men(p)-n, p)
			}
			fewer[n]++
		}
	}
	if fewer[0] < 10000 || fewer[1] < 10000 || fewer[2] < 100 || fewer[5] < 50 {
		t.Errorf("so many men fewer, so often: %v", fewer)
	}
}

// P16.5

// named are the squares that the move names.
func named(p api.Position, m api.Move) uint64 {
	squares := uint64(1)<<m.From | uint64(1)<<m.To
	if king, rook, ok := castle.Goals(p, m); ok {
		squares |= 1<<king | 1<<rook
	}
	if taken := plainTaken(p, m); taken >= 0 {
		squares |= 1 << taken
		if p.Variant == api.Atomic {
			squares |= after.Blown(p, int(m.To))
		}
	}
	return squares
}

func TestOneAtATime(t *testing.T) {
	for i, p := range append(mixed(3600), played(36, 60)...) {
		for _, m := range after.All(p) {
			got, _ := after.Move(p, m)
			squares := named(p, m)
			for s := range 64 {
				if squares>>s&1 == 0 && got.Board[s] != p.Board[s] {
					t.Errorf("%d: %+v: %d on %s: %+v", i, m, got.Board[s], strconv.Itoa(s), p)
				}
			}
			if p.Variant != api.Crazyhouse && (got.Pockets != p.Pockets || got.Promoted != p.Promoted) {
				t.Errorf("%d: %+v: %v, %x: %+v", i, m, got.Pockets, got.Promoted, p)
			}
			if got.Pockets[1-p.Turn] != p.Pockets[1-p.Turn] || got.Checks[1-p.Turn] != p.Checks[1-p.Turn] {
				t.Errorf("%d: %+v: %v, %v: %+v", i, m, got.Pockets, got.Checks, p)
			}
		}
	}
}
