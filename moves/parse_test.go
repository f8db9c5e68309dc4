package moves_test

import (
	"strings"
	"testing"

	"kibitzer/api"
	"kibitzer/moves"
)

// P11.2

// lots are positions of the variant: its first one, with an empty board, with castlings, without, and drawn ones.
func lots(v uint8) []api.Position {
	var l []api.Position
	for turn := range uint8(2) {
		one := castler(v, turn)
		one.Rooks[turn][0] = -1
		one.Board[home(one, 7)] = 0
		wrong := castler(v, turn)
		wrong.Rooks[turn] = [2]int8{1, 6}
		l = append(l, start(v, turn), bare(v, turn), castler(v, turn), one, wrong)
	}
	d := dice(uint64(v) + 112)
	for range 3 {
		l = append(l, d.filled(v))
	}
	return l
}

// TestAllTexts: each text that some move has, in positions in which it has it, and in which another one has it, or none.
func TestAllTexts(t *testing.T) {
	t.Parallel()
	texts := plainOf(t, bare(api.Standard, 0)).all(t)
	if len(texts) != 64*63*6+64*5 {
		t.Fatalf("%d texts", len(texts))
	}
	for v := range api.Variants {
		for _, p := range lots(v) {
			o := plainOf(t, p)
			if n := len(o.all(t)); n != len(texts) {
				t.Errorf("%d texts, not %d, in %+v", n, len(texts), p)
			}
			for text := range texts {
				if !checkParse(t, o, text) {
					t.Errorf("%q is none's in %+v", text, p)
				}
			}
		}
	}
}

// odd are bytes that are put in, or put in place of others: all that some text has, those beside them, and some that none has.
const odd = "abcdefghi`ABCDEFGHI0123456789PNBRQKpnbrqk@?-=x+# \t\n\x00\x7f\x80\xc3\xe9\xff"

var sample = []string{"e1g1", "e1c1", "e8g8", "e8c8", "e1h1", "e1a1", "e8h8", "e2e4", "a1h8", "e7e8q", "e7e8k", "b2a1n", "e1g1r", "P@a1", "N@f3", "Q@h8", "B@e4", "R@d5"}

// TestOneByteOff: texts with a byte left out, put in, changed, told twice, exchanged with the next one, at each place.
func TestOneByteOff(t *testing.T) {
	t.Parallel()
	for v := range api.Variants {
		for _, p := range lots(v) {
			o := plainOf(t, p)
			read := 0
			for _, text := range sample {
				for i := range len(text) + 1 {
					for _, b := range []byte(odd) {
						if checkParse(t, o, text[:i]+string([]byte{b})+text[i:]) {
							read++
						}
					}
					checkParse(t, o, text[:i])
					checkParse(t, o, text[i:])
					if i == len(text) {
						break
					}
					checkParse(t, o, text[:i]+text[i+1:])
					checkParse(t, o, text[:i]+text[i:i+1]+text[i:])
					for _, b := range []byte(odd) {
						checkParse(t, o, text[:i]+string([]byte{b})+text[i+1:])
					}
					if i > 0 {
						checkParse(t, o, text[:i-1]+text[i:i+1]+text[i-1:i]+text[i+1:])
					}
				}
			}
			if read == 0 {
				t.Errorf("no byte put in leads to another text in %+v", p)
			}
		}
	}
}

// TestEachByte: each byte there is, at each place, and alone.
func TestEachByte(t *testing.T) {
	each(func(v, turn uint8) {
		o := plainOf(t, castler(v, turn))
		for b := range 256 {
			one := string([]byte{byte(b)})
			checkRefused(t, o.p, one, api.ErrText)
			for _, text := range sample {
				for i := range len(text) {
					checkParse(t, o, text[:i]+one+text[i+1:])
				}
				checkParse(t, o, text+one)
				checkParse(t, o, one+text)
			}
		}
	})
}

// refused are texts that no move has, in no position.
var refused = []string{
	"", " ", "e", "e2", "e2e", "2e4", "e2e2", "e2e9", "e2e0", "e9e4", "e0e4", "i2e4", "e2i4", "E2E4", "E2e4", "e2E4", "e2-e4", "e2 e4", " e2e4", "e2e4 ", "e2e4\n", "e2e4\x00", "\x00e2e4", "e2e4e2", "e2e4e5e6", "e22e4", "ee24", "2e4e", "a1a1", "h8h8", "e1e1", "e8e8",
	"e7e8p", "e7e8Q", "e7e8N", "e7e8K", "e7e8P", "e7e8=q", "e7e8qq", "e7e8q ", "e7e8 q", "e7e8.", "e7e8a", "e7e8x", "e7e81", "qe7e8", "e7e7q", "e7qe8",
	"n@f3", "p@f3", "q@a1", "K@e4", "k@e4", "N@f9", "N@f0", "N@i3", "N@F3", "N@", "N@f", "N@3", "@f3", "@", "N", "Nf3", "N@@f3", "N@f3@", "N@f3q", "N@f3 ", " N@f3", "N @f3", "N@ f3", "NN@f3", "N@f3f3", "f3@N", ".@f3", "A@f3", "X@f3", "1@f3", "N@N@", "N@f3N@f3", "\x00@f3", "N@f\x003",
	"0000", "O-O", "O-O-O", "0-0", "o-o", "e1g1+", "e1g1#", "Ke1g1", "exd5", "--", "null", "(none)", "e4", "Nf3", "a1b", "....", "@@@@", "\xff\xff\xff\xff", "e\xff2e4", "e2e4\xff", "\u00e9", "\u00e92\u00e94", "e2e4\u00e9", "e2e4\u0301", "\u212a@e4", "e\u0662e4", "\uff452e4", "e2e4\ufeff", "\ufeffe2e4", "N\u00402", "N\uff20f3",
}

func TestRefused(t *testing.T) {
	for v := range api.Variants {
		for _, p := range lots(v) {
			for _, text := range refused {
				checkRefused(t, p, text, api.ErrText)
			}
		}
	}
}

// TestLongTexts: texts that begin, or end, with another one's, of many lengths.
func TestLongTexts(t *testing.T) {
	each(func(v, turn uint8) {
		p := castler(v, turn)
		for _, n := range []int{2, 3, 5, 8, 63, 64, 65, 255, 256, 257, 1000, 8192, 1 << 16} {
			for _, text := range append([]string{"e", "2", "@", "q", " ", "\x00", "\xff", "\u00e9", "e2"}, sample...) {
				checkRefused(t, p, strings.Repeat(text, n+2), api.ErrText)
			}
			for _, text := range sample {
				for _, more := range []string{" ", "q", "\x00", "e", "1", "@", "\xff"} {
					checkRefused(t, p, text+strings.Repeat(more, n), api.ErrText)
					checkRefused(t, p, strings.Repeat(more, n)+text, api.ErrText)
				}
			}
		}
	})
}

// TestErrorsInOrder: no variant, or Turn, ahead of any text.
func TestErrorsInOrder(t *testing.T) {
	for v := range 256 {
		for turn := range 256 {
			if v <= 8 && turn <= 1 {
				continue
			}
			p := castler(api.Standard, 0)
			p.Variant, p.Turn = uint8(v), uint8(turn)
			for _, text := range []string{"", "e2e4", "e1g1", "N@f3", "e7e8q", "x", "e2e2", "\xff"} {
				checkRefused(t, p, text, api.ErrArg)
			}
		}
	}
}

// TestWhatStandsThere: but for castling it doesn't count what stands on the squares, whose turn it is, what is held or passing.
func TestWhatStandsThere(t *testing.T) {
	d := dice(113)
	for range 3000 {
		p := d.wild()
		p.Variant, p.Turn = uint8(d.below(9)), uint8(d.below(2))
		for text, want := range map[string]api.Move{
			"a2a3": {From: 8, To: 16}, "h7b3": {From: 55, To: 17}, "d5d8n": {From: 35, To: 59, Promote: 2}, "e1g1q": {From: 4, To: 6, Promote: 5}, "P@e1": {From: 4, To: 4, Drop: 1}, "R@c6": {From: 42, To: 42, Drop: 4},
		} {
			if p.Variant == api.Chess960 && p.Board[want.From] == 8*p.Turn+6 {
				continue
			}
			if m, e := moves.Parse(p, text); e != api.OK || m != want {
				t.Errorf("Parse of %q: %d %+v, not %+v, in %+v", text, e, m, want, p)
			}
		}
	}
}

// TestAnyTexts: texts put together out of pieces of others, and out of any bytes.
func TestAnyTexts(t *testing.T) {
	t.Parallel()
	d := dice(114)
	parts := []string{"e1", "g1", "c1", "e8", "c8", "a1", "h8", "e2", "d4", "i1", "a9", "N", "P", "K", "@", "@", "n", "q", "k", "p", " ", "x"}
	for v := range api.Variants {
		for _, p := range lots(v) {
			o := plainOf(t, p)
			read := 0
			for range 3000 {
				text := ""
				for range 2 + d.below(3) {
					text += parts[d.below(len(parts))]
				}
				if checkParse(t, o, text) {
					read++
				}
				any := make([]byte, d.below(8))
				for i := range any {
					any[i] = byte(d.next())
				}
				checkParse(t, o, string(any))
				for i := range any {
					any[i] = odd[d.below(len(odd))]
				}
				checkParse(t, o, string(any))
			}
			if read < 100 {
				t.Errorf("only %d texts read in %+v", read, p)
			}
		}
	}
}
