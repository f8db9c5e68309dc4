package fen_test

import (
	"strings"
	"testing"

	"kibitzer/api"
	"kibitzer/fen"
)

// P10.2

// sample are texts of the variant, each field at one or another of its ends.
func sample(v uint8) []string {
	var l []string
	for _, c := range known {
		if p := c.p(); p.Variant == v {
			l = append(l, c.text)
		}
	}
	d := dice(uint64(v) + 200)
	for range 4 {
		if text := fen.Print(d.written(v)); text != "" {
			l = append(l, text)
		}
	}
	return l
}

// put are bytes that are put in, or put in place of others: all that some text has, those beside them, and some that none has.
const put = "PNBRQKpnbrqkwbACDEFGHLOcdefghalo0123456789:/~[]+-{|} \t\n\x00\x7f\x80\xff,.@"

// TestOneByteOff: texts with a byte left out, put in, changed, told twice, exchanged with the next one, at each place.
func TestOneByteOff(t *testing.T) {
	for v := range api.Variants {
		read := 0
		for _, text := range sample(v) {
			if !checkParse(t, v, text) {
				t.Errorf("refused: %d %q", v, text)
			}
			for i := range len(text) + 1 {
				for _, b := range []byte(put) {
					if checkParse(t, v, text[:i]+string([]byte{b})+text[i:]) {
						read++
					}
				}
				if i == len(text) {
					break
				}
				checkParse(t, v, text[:i]+text[i+1:])
				checkParse(t, v, text[:i])
				checkParse(t, v, text[i:])
				for _, b := range []byte(put) {
					checkParse(t, v, text[:i]+string([]byte{b})+text[i+1:])
				}
				if i > 0 {
					checkParse(t, v, text[:i-1]+text[i:i+1]+text[i-1:i]+text[i+1:])
				}
			}
		}
		if read == 0 {
			t.Errorf("%d: no byte put in leads to another text", v)
		}
	}
}

// TestEachByte: each byte there is, at each place of some first position.
func TestEachByte(t *testing.T) {
	for v := range api.Variants {
		text := fen.Print(start(v))
		for i := range len(text) {
			for b := range 256 {
				checkParse(t, v, text[:i]+string([]byte{byte(b)})+text[i+1:])
			}
		}
	}
}

// refused are texts that are no position's of Standard, nor of any variant but for what is said beside.
var refused = []string{
	"", " ", "-", "/", "x", "8", "w", "       ", "///////", "8/8/8/8/8/8/8/8", "8/8/8/8/8/8/8/8 ",
	"8/8/8/8/8/8/8/8 w", "8/8/8/8/8/8/8/8 w -", "8/8/8/8/8/8/8/8 w - -", "8/8/8/8/8/8/8/8 w - - 0", "8/8/8/8/8/8/8/8 w - - 0 ",
	"8/8 w - - 0 1", "8/8/8/8/8/8/8 w - - 0 1", "8/8/8/8/8/8/8/8/8 w - - 0 1", "8/8/8/8/8/8/8/8/ w - - 0 1", "/8/8/8/8/8/8/8/8 w - - 0 1", "8/8/8/8//8/8/8 w - - 0 1",
	"8/8/8/8/8/8/8/44 w - - 0 1", "11111111/8/8/8/8/8/8/8 w - - 0 1", "8/8/8/8/8/8/8/7 w - - 0 1", "8/8/8/8/8/8/8/9 w - - 0 1", "8/8/8/8/8/8/8/08 w - - 0 1", "8/8/8/8/8/8/8/80 w - - 0 1",
	"8/8/8/8/8/8/8/88 w - - 0 1", "8/8/8/8/8/8/8/8p w - - 0 1", "8/8/8/8/8/8/8/p8 w - - 0 1", "8/8/8/8/8/8/8/pppppppp1 w - - 0 1", "8/8/8/8/8/8/8/ppppppppp w - - 0 1", "8/8/8/8/8/8/8/x7 w - - 0 1", "8/8/8/8/8/8/8/.7 w - - 0 1",
	"64 w - - 0 1", "88888888 w - - 0 1", "8/8/8/8/8/8/8/7\xff w - - 0 1", "8/8/8/8/8/8/8/7\u00fc w - - 0 1", "8/8/8/8/8/8/8/7\u0130 w - - 0 1",
	"~8/8/8/8/8/8/8/8 w - - 0 1", "8/8/8/8/8/8/8/~8 w - - 0 1", "8/8/8/8/8/8/8/8~ w - - 0 1", "8/8/8/8/8/8/8/Q~7 w - - 0 1",
	"8/8/8/8/8/8/8/8[] w - - 0 1", "8/8/8/8/8/8/8/8[Q] w - - 0 1", "8/8/8/8/8/8/8/8[ w - - 0 1", "8/8/8/8/8/8/8/8] w - - 0 1",
	"8/8/8/8/8/8/8/8 W - - 0 1", "8/8/8/8/8/8/8/8 wb - - 0 1", "8/8/8/8/8/8/8/8 - - - 0 1", "8/8/8/8/8/8/8/8  - - 0 1", "8/8/8/8/8/8/8/8 x - - 0 1",
	"8/8/8/8/8/8/8/8 w  - 0 1", "8/8/8/8/8/8/8/8 w -- - 0 1", "8/8/8/8/8/8/8/8 w K - 0 1", "8/8/8/8/8/8/8/8 w q - 0 1", "8/8/8/8/8/8/8/8 w E - 0 1",
	"8/8/8/8/8/8/8/8 w -  0 1", "8/8/8/8/8/8/8/8 w - e 0 1", "8/8/8/8/8/8/8/8 w - e0 0 1", "8/8/8/8/8/8/8/8 w - e9 0 1", "8/8/8/8/8/8/8/8 w - i4 0 1", "8/8/8/8/8/8/8/8 w - E4 0 1", "8/8/8/8/8/8/8/8 w - e44 0 1", "8/8/8/8/8/8/8/8 w - -1 0 1",
	"8/8/8/8/8/8/8/8 w - - 00 1", "8/8/8/8/8/8/8/8 w - - 01 1", "8/8/8/8/8/8/8/8 w - - 0 01", "8/8/8/8/8/8/8/8 w - - 0 00", "8/8/8/8/8/8/8/8 w - - -0 1", "8/8/8/8/8/8/8/8 w - - +1 1", "8/8/8/8/8/8/8/8 w - - 0 -1", "8/8/8/8/8/8/8/8 w - - 0 +1",
	"8/8/8/8/8/8/8/8 w - - 10001 1", "8/8/8/8/8/8/8/8 w - - 0 10001", "8/8/8/8/8/8/8/8 w - - 0 65536", "8/8/8/8/8/8/8/8 w - - 4294967296 1", "8/8/8/8/8/8/8/8 w - - 18446744073709551616 1", "8/8/8/8/8/8/8/8 w - - 0 99999999999999999999999",
	"8/8/8/8/8/8/8/8 w - - 1_0 1", "8/8/8/8/8/8/8/8 w - - 0x1 1", "8/8/8/8/8/8/8/8 w - - 1e3 1", "8/8/8/8/8/8/8/8 w - - 0.5 1", "8/8/8/8/8/8/8/8 w - - a 1", "8/8/8/8/8/8/8/8 w - -  1",
	" 8/8/8/8/8/8/8/8 w - - 0 1", "8/8/8/8/8/8/8/8  w - - 0 1", "8/8/8/8/8/8/8/8 w - - 0  1", "8/8/8/8/8/8/8/8 w - - 0 1 ", "8/8/8/8/8/8/8/8 w - - 0 1 2", "8/8/8/8/8/8/8/8 w - - 0 1\n", "8/8/8/8/8/8/8/8\tw - - 0 1",
	"8/8/8/8/8/8/8/8 w - - +0+0 0 1", "8/8/8/8/8/8/8/8 w - - 0 1 +0+0", "8/8/8/8/8/8/8/8 - w - 0 1",
	"4k3/8/8/8/8/8/8/R3K2R w HA - 0 1", "4k3/8/8/8/8/8/8/R3K2R w QK - 0 1", "4k3/8/8/8/8/8/8/R3K2R w KK - 0 1", "4k3/8/8/8/8/8/8/R3K2R w KQ- - 0 1", "4k3/8/8/8/8/8/8/R3K2R w -KQ - 0 1", "4k3/8/8/8/8/8/8/R3K2R w kK - 0 1", "4k3/8/8/8/8/8/8/R3K2R w GK - 0 1", "4k3/8/8/8/8/8/8/R3K2R w KH - 0 1",
	"4k3/8/8/8/8/8/8/4K3 w E - 0 1", "4k3/8/8/8/8/8/8/4K3 w e - 0 1", "4k3/8/8/8/8/8/8/4K3 w GF - 0 1", "4k3/8/8/8/8/8/8/4K3 w BC - 0 1", "4k3/8/8/8/8/8/8/4K3 w BG - 0 1", "4k3/8/8/8/8/8/8/4K3 w I - 0 1", "4k3/8/8/8/8/8/8/4K3 w h - 0 1", "4k3/8/8/8/8/8/8/4K3 w a - 0 1", "4k3/8/8/8/8/8/8/4K3 w @ - 0 1", "4k3/8/8/8/8/8/8/4K3 w \u212a - 0 1",
	"8/4k3/8/8/8/8/8/4K3 w kq - 0 1", "4k3/8/8/8/8/8/4K3/8 w K - 0 1", "8/8/8/8/8/8/8/K6k w K - 0 1 ", "7K/8/8/8/8/8/8/8 w Q - 0 1", "8/8/8/8/8/8/8/K7 w Q - 0 1", "8/8/8/8/8/8/8/7K w K - 0 1", "4k3/8/8/8/8/8/4k3/4K3 w k - 0 1",
}

func TestRefused(t *testing.T) {
	for _, text := range refused {
		checkRefused(t, api.Standard, text, api.ErrText)
		for v := range api.Variants {
			checkParse(t, v, text)
		}
	}
}

func TestRefusedPockets(t *testing.T) {
	const board, rest = "8/8/8/8/8/8/8/8", " w - - 0 1"
	for _, pockets := range []string{
		"", "[", "]", "[[]", "[]]", "[][]", "][", "[ ]", "[-]", "[K]", "[k]", "[qQ]", "[NP]", "[np]", "[QqQ]", "[PpP]", "[x]", "[1]", "[P~]", "[\xff]", "[\u00fc]", "[P", "P]", "[]P", "P[]", "/[]", "[/]",
	} {
		checkRefused(t, api.Crazyhouse, board+pockets+rest, api.ErrText)
		checkParse(t, api.Crazyhouse, board+pockets+rest)
	}
	for _, board := range []string{"1~7", "~8", "8~", "Q~~7", "q6~1", "7Q/~8"} {
		checkRefused(t, api.Crazyhouse, "8/8/8/8/8/8/8/"+board+"[]"+rest, api.ErrText)
	}
	for _, pockets := range []string{"[]", "[P]", "[PNBRQpnbrq]", "[PPNNqq]", "[q]"} {
		if !checkParse(t, api.Crazyhouse, board+pockets+rest) {
			t.Errorf("refused: %q", pockets)
		}
	}
}

func TestRefusedChecks(t *testing.T) {
	const ahead, behind = "8/8/8/8/8/8/8/8 w - - ", "0 1"
	for _, checks := range []string{
		"", "+0 ", "+0+ ", "++0 ", "+0+0", "0+0 ", "+0+4 ", "+4+0 ", "+0+0+0 ", "+00+0 ", "+0+00 ", "+0-0 ", "-0+0 ", "+9+0 ", "+:+0 ", "+/+0 ", "+0+: ", "+a+0 ", "+0+0  ", " +0+0 ", "+-1+0 ", "+256+0 ", "+0 +0 ", "\xff0\xff0 ", "+0+\xff ", "3+3 ",
	} {
		checkRefused(t, api.ThreeCheck, ahead+checks+behind, api.ErrText)
		checkParse(t, api.ThreeCheck, ahead+checks+behind)
	}
	for white := range 10 {
		for black := range 10 {
			checks := "+" + string(rune('0'+white)) + "+" + string(rune('0'+black)) + " "
			if checkParse(t, api.ThreeCheck, ahead+checks+behind) != (white < 4 && black < 4) {
				t.Errorf("%q", checks)
			}
		}
	}
}

// TestOtherVariants: each text, asked of each number of a variant, also of those that there aren't.
func TestOtherVariants(t *testing.T) {
	for v := range api.Variants {
		for _, text := range sample(v) {
			for other := range 256 {
				checkParse(t, uint8(other), text)
				if other > 8 {
					checkRefused(t, uint8(other), text, api.ErrArg)
				}
			}
		}
	}
	checkRefused(t, api.Standard, fen.Print(start(api.Crazyhouse)), api.ErrText)
	checkRefused(t, api.Standard, fen.Print(start(api.ThreeCheck)), api.ErrText)
	checkRefused(t, api.Crazyhouse, fen.Print(start(api.Standard)), api.ErrText)
	checkRefused(t, api.ThreeCheck, fen.Print(start(api.Standard)), api.ErrText)
}

// TestErrorsInOrder: no variant, then too long, then no text.
func TestErrorsInOrder(t *testing.T) {
	good := fen.Print(start(api.Standard))
	for _, text := range []string{"", "x", good, strings.Repeat("8", 201), strings.Repeat(good, 100)} {
		for v := int(api.Variants); v < 256; v++ {
			checkRefused(t, uint8(v), text, api.ErrArg)
		}
	}
	for v := range api.Variants {
		good := fen.Print(start(v))
		for _, n := range []int{201, 202, 255, 256, 257, 400, 4096, 1 << 20} {
			checkRefused(t, v, strings.Repeat("8", n), api.ErrLong)
			checkRefused(t, v, strings.Repeat("\x00", n), api.ErrLong)
			checkRefused(t, v, good+strings.Repeat(" ", n-len(good)), api.ErrLong)
			checkRefused(t, v, strings.Repeat("\u00e9", n-100), api.ErrLong)
		}
		for _, n := range []int{199, 200} {
			checkRefused(t, v, strings.Repeat("8", n), api.ErrText)
			checkRefused(t, v, strings.Repeat("/", n), api.ErrText)
			checkRefused(t, v, strings.Repeat(" ", n), api.ErrText)
			checkRefused(t, v, strings.Repeat("8/", n/2), api.ErrText)
			checkRefused(t, v, strings.Repeat("\xff", n), api.ErrText)
			checkRefused(t, v, good+strings.Repeat(" ", n-len(good)), api.ErrText)
			checkRefused(t, v, good+strings.Repeat("0", n-len(good)), api.ErrText)
		}
	}
}

// TestLongTexts: what is a text but for its length is too long, and read with a byte less.
func TestLongTexts(t *testing.T) {
	text := func(pawns int) string {
		return "8/8/8/8/8/8/8/8[" + strings.Repeat("P", pawns) + "] w - - 0 1"
	}
	rest := len(text(0))
	for n := 150; n <= 260; n++ {
		p, e := fen.Parse(api.Crazyhouse, text(n-rest))
		if n > api.MaxFen {
			if e != api.ErrLong || p != (api.Position{}) {
				t.Errorf("%d bytes: %d %+v", n, e, p)
			}
		} else if e != api.OK || int(p.Pockets[0][1]) != n-rest {
			t.Errorf("%d bytes: %d %+v", n, e, p)
		}
	}
}

// TestAnyTexts: texts put together out of pieces of others, and out of any bytes.
func TestAnyTexts(t *testing.T) {
	d := dice(103)
	var parts []string
	for v := range api.Variants {
		for _, text := range sample(v) {
			parts = append(parts, strings.SplitAfter(text, " ")...)
		}
	}
	for range 20000 {
		text := ""
		for range 5 + d.below(4) {
			text += parts[d.below(len(parts))]
		}
		checkParse(t, uint8(d.below(10)), strings.TrimSuffix(text, " "))
		any := make([]byte, d.below(80))
		for i := range any {
			any[i] = byte(d.next())
		}
		checkParse(t, uint8(d.below(10)), string(any))
		for i := range any {
			any[i] = put[d.below(len(put))]
		}
		checkParse(t, uint8(d.below(10)), string(any))
	}
}
