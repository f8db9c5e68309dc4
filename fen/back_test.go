package fen_test

import (
	"testing"

	"kibitzer/api"
	"kibitzer/fen"
	"kibitzer/rules"
)

// P10.3

// checkBack: a position that can be written is read as it was, its text written as the same; it tells the text.
func checkBack(t *testing.T, p api.Position) string {
	t.Helper()
	text := fen.Print(p)
	if text == "" {
		t.Fatalf("can't be written: %+v", p)
	}
	q, e := fen.Parse(p.Variant, text)
	if e != api.OK || q != p {
		t.Errorf("%q: read as %d %+v, not %+v", text, e, q, p)
	}
	if again := fen.Print(q); again != text {
		t.Errorf("%q: written as %q", text, again)
	}
	return text
}

func TestThereAndBack(t *testing.T) {
	for v := range api.Variants {
		d := dice(uint64(v) + 104)
		seen := map[string]api.Position{}
		for range 3000 {
			p := d.written(v)
			checkPrint(t, p)
			text, ok := plainText(p)
			if !ok {
				continue
			}
			checkBack(t, p)
			if q, ok := seen[text]; ok && q != p {
				t.Errorf("%q: two positions: %+v, %+v", text, p, q)
			}
			seen[text] = p
		}
		if len(seen) < 2000 {
			t.Errorf("%d: only %d texts", v, len(seen))
		}
	}
}

// TestChangedOne: a position in which one thing is changed has another text.
func TestChangedOne(t *testing.T) {
	for v := range api.Variants {
		d := dice(uint64(v) + 105)
		for range 300 {
			p := d.written(v)
			text, ok := plainText(p)
			if !ok {
				continue
			}
			for _, change := range []func(p *api.Position){
				func(p *api.Position) { s := d.below(64); p.Board[s] = plainMen[d.below(12)] },
				func(p *api.Position) { s := d.below(64); p.Board[s] = 0 },
				func(p *api.Position) { p.Promoted ^= 1 << d.below(64) },
				func(p *api.Position) { p.Pockets[d.below(2)][d.below(6)]++ },
				func(p *api.Position) { p.Turn ^= 1 },
				func(p *api.Position) { p.Rooks[d.below(2)][d.below(2)] = int8(d.below(9) - 1) },
				func(p *api.Position) { p.Passing = int8(d.below(65) - 1) },
				func(p *api.Position) { p.Checks[d.below(2)] = uint8(d.below(4)) },
				func(p *api.Position) { p.Half = d.clock() },
				func(p *api.Position) { p.Full = d.clock() },
			} {
				q := p
				change(&q)
				checkPrint(t, q)
				if got := fen.Print(q); (got == text) != (q == p) {
					t.Errorf("%q: of both %+v and %+v", got, p, q)
				}
			}
		}
	}
}

// P10.4

func TestFirstPositions(t *testing.T) {
	for v := range api.Variants {
		p := start(v)
		checkPrint(t, p)
		checkBack(t, p)
	}
	seen := map[string]int{}
	for n := range 960 {
		p, _ := rules.Start960(n)
		checkPrint(t, p)
		text := checkBack(t, p)
		if other, ok := seen[text]; ok {
			t.Errorf("%q: of %d and %d", text, other, n)
		}
		seen[text] = n
	}
	for n, want := range map[int]string{
		0:   "bbqnnrkr/pppppppp/8/8/8/8/PPPPPPPP/BBQNNRKR w KFkf - 0 1",
		518: "rnbqkbnr/pppppppp/8/8/8/8/PPPPPPPP/RNBQKBNR w KQkq - 0 1",
		959: "rkrnnqbb/pppppppp/8/8/8/8/PPPPPPPP/RKRNNQBB w CQcq - 0 1",
	} {
		p, _ := rules.Start960(n)
		if got := fen.Print(p); got != want {
			t.Errorf("%d: %q, not %q", n, got, want)
		}
	}
}
