package fen_test

import (
	"fmt"
	"regexp"
	"strconv"
	"strings"
	"testing"

	"kibitzer/api"
	"kibitzer/fen"
	"kibitzer/rules"
)

// plainLetters are the letters of all pieces.
var plainLetters = map[uint8]string{
	1: "P", 2: "N", 3: "B", 4: "R", 5: "Q", 6: "K",
	9: "p", 10: "n", 11: "b", 12: "r", 13: "q", 14: "k",
}

// crazy is the one variant that has pockets, three the one whose checks are counted.
const (
	crazy = 2
	three = 5
)

// plainText is the text of a position, and whether it can be written, reckoned row by row of the chapter.
func plainText(p api.Position) (string, bool) {
	rooks, ok := plainRooks(p)
	if !ok || !plainCan(p) {
		return "", false
	}
	board := ""
	for rank := 7; rank >= 0; rank-- {
		row := ""
		for file := range 8 {
			s := 8*rank + file
			switch {
			case p.Board[s] == 0:
				row += "1"
			case p.Promoted&(1<<s) != 0:
				row += plainLetters[p.Board[s]] + "~"
			default:
				row += plainLetters[p.Board[s]]
			}
		}
		for n := 8; n > 1; n-- {
			row = strings.ReplaceAll(row, strings.Repeat("1", n), strconv.Itoa(n))
		}
		board += row + "/"
	}
	board = strings.TrimSuffix(board, "/")
	if p.Variant == crazy {
		pocket := ""
		for c := range 2 {
			for k := 1; k <= 5; k++ {
				for range p.Pockets[c][k] {
					pocket += plainLetters[uint8(8*c+k)]
				}
			}
		}
		board += "[" + pocket + "]"
	}
	passing := "-"
	if p.Passing >= 0 {
		passing = plainSquare(int(p.Passing))
	}
	checks := ""
	if p.Variant == three {
		checks = fmt.Sprintf(" +%d+%d", p.Checks[0], p.Checks[1])
	}
	text := fmt.Sprintf("%s %c %s %s%s %d %d", board, "wb"[p.Turn], rooks, passing, checks, p.Half, p.Full)
	if len(text) > 200 {
		return "", false
	}
	return text, true
}

func plainSquare(s int) string { return fmt.Sprintf("%c%d", 'a'+s%8, s/8+1) }

// plainCan: whether all but the rooks, and the length, is as the chapter asks.
func plainCan(p api.Position) bool {
	ok := p.Variant <= 8 && p.Turn <= 1 && p.Passing >= -1 && p.Passing <= 63
	ok = ok && p.Half >= 0 && p.Half <= 10000 && p.Full >= 0 && p.Full <= 10000
	for s, n := range p.Board {
		ok = ok && (n == 0 || plainLetters[n] != "")
		if p.Promoted&(1<<s) != 0 {
			ok = ok && p.Variant == crazy && n != 0
		}
	}
	for c := range 2 {
		for k, n := range p.Pockets[c] {
			ok = ok && (n == 0 || p.Variant == crazy && k != 0)
		}
		ok = ok && (p.Checks[c] == 0 || p.Variant == three && p.Checks[c] <= 3)
	}
	return ok
}

// plainKing is the least square on which that color's king stands, -1 if none does.
func plainKing(board [64]uint8, c int) int {
	for s := range 64 {
		if int(board[s]) == 8*c+6 {
			return s
		}
	}
	return -1
}

// plainRooks is the field of the rooks, and whether it can be written.
func plainRooks(p api.Position) (string, bool) {
	text := ""
	for c := range 2 {
		king := plainKing(p.Board, c)
		for d := range 2 {
			f := int(p.Rooks[c][d])
			if f == -1 {
				continue
			}
			if f < 0 || f > 7 || king < 0 || king/8 != 7*c || d == 0 && king%8 >= f || d == 1 && king%8 <= f {
				return "", false
			}
			letter := string(rune('A' + f))
			if d == 0 && f == 7 {
				letter = "K"
			} else if d == 1 && f == 0 {
				letter = "Q"
			}
			if c == 1 {
				letter = strings.ToLower(letter)
			}
			text += letter
		}
	}
	if text == "" {
		text = "-"
	}
	return text, true
}

// form is that of all texts, but for what stands in a rank and which rooks may be named.
var form = regexp.MustCompile(`^([^ \[]*)(\[(P*)(N*)(B*)(R*)(Q*)(p*)(n*)(b*)(r*)(q*)\])? ([wb]) ([BCDEFGKQbcdefgkq]{1,4}|-) ([a-h][1-8]|-)( \+([0-3])\+([0-3]))? (0|[1-9][0-9]{0,4}) (0|[1-9][0-9]{0,4})$`)

// rankForm is that of one rank's text; gaps are digits that stand side by side.
var (
	rankForm = regexp.MustCompile(`^([1-8]|[PNBRQKpnbrqk]~?)*$`)
	gaps     = regexp.MustCompile(`[1-8][1-8]`)
)

// plainParse tells the position of a text by its form.
func plainParse(v uint8, text string) (api.Position, api.Errno) {
	if v > 8 {
		return api.Position{}, api.ErrArg
	}
	if len(text) > 200 {
		return api.Position{}, api.ErrLong
	}
	m := form.FindStringSubmatch(text)
	if m == nil || (m[2] != "") != (v == crazy) || (m[16] != "") != (v == three) {
		return api.Position{}, api.ErrText
	}
	p := api.Position{Variant: v, Passing: -1, Rooks: [2][2]int8{{-1, -1}, {-1, -1}}}
	for i := range 10 {
		p.Pockets[i/5][i%5+1] = uint8(len(m[3+i]))
	}
	if m[13] == "b" {
		p.Turn = 1
	}
	if m[15] != "-" {
		p.Passing = int8(m[15][0]-'a') + 8*int8(m[15][1]-'1')
	}
	if v == three {
		p.Checks = [2]uint8{m[17][0] - '0', m[18][0] - '0'}
	}
	p.Half, _ = strconv.Atoi(m[19])
	p.Full, _ = strconv.Atoi(m[20])
	if p.Half > 10000 || p.Full > 10000 || !plainBoard(&p, m[1]) || !plainRights(&p, m[14]) {
		return api.Position{}, api.ErrText
	}
	return p, api.OK
}

func plainBoard(p *api.Position, text string) bool {
	rows := strings.Split(text, "/")
	if len(rows) != 8 {
		return false
	}
	for i, row := range rows {
		if !rankForm.MatchString(row) || gaps.MatchString(row) || strings.Contains(row, "~") && p.Variant != crazy {
			return false
		}
		var squares []uint8
		marks := uint64(0)
		for _, r := range row {
			if r == '~' {
				marks |= 1 << (len(squares) - 1)
			} else if r <= '8' {
				squares = append(squares, make([]uint8, r-'0')...)
			} else {
				for man, letter := range plainLetters {
					if letter == string(r) {
						squares = append(squares, man)
					}
				}
			}
		}
		if len(squares) != 8 {
			return false
		}
		copy(p.Board[8*(7-i):], squares)
		p.Promoted |= marks << (8 * (7 - i))
	}
	return true
}

// plainRights reads the letters of rooks, each of which must be of a later color, or side, than the one ahead of it.
func plainRights(p *api.Position, text string) bool {
	last := -1
	for _, r := range strings.ReplaceAll(text, "-", "") {
		c := 0
		if r >= 'a' {
			c = 1
		}
		king, f := plainKing(p.Board, c), int(r|32)-'a'
		d := 0
		switch {
		case r|32 == 'k':
			f = 7
		case r|32 == 'q':
			d, f = 1, 0
		case f < king%8:
			d = 1
		}
		if king < 0 || king/8 != 7*c || d == 0 && f <= king%8 || d == 1 && f >= king%8 || 2*c+d <= last {
			return false
		}
		last = 2*c + d
		p.Rooks[c][d] = int8(f)
	}
	return true
}

// checkPrint holds the text of a position against the plain one, and reads it again.
func checkPrint(t *testing.T, p api.Position) {
	t.Helper()
	want, can := plainText(p)
	got := fen.Print(p)
	if got != want {
		t.Errorf("Print: %q, not %q: %+v", got, want, p)
	}
	if !can {
		return
	}
	if q, e := fen.Parse(p.Variant, got); e != api.OK || q != p {
		t.Errorf("Parse of %q: %d %+v, not %+v", got, e, q, p)
	}
}

// checkNone: the position can't be written.
func checkNone(t *testing.T, p api.Position) {
	t.Helper()
	if got := fen.Print(p); got != "" {
		t.Errorf("Print: %q, not nothing: %+v", got, p)
	}
}

// checkParse holds what is read of a text against the plain reading, and writes it again; it tells whether it could be read.
func checkParse(t *testing.T, v uint8, text string) bool {
	t.Helper()
	want, wantErr := plainParse(v, text)
	got, e := fen.Parse(v, text)
	if e != wantErr || got != want {
		t.Errorf("Parse of %d %q: %d %+v, not %d %+v", v, text, e, got, wantErr, want)
	}
	if e == api.OK && fen.Print(got) != text {
		t.Errorf("Print of what %q is: %q", text, fen.Print(got))
	}
	return e == api.OK
}

// checkRefused: the text is refused with that error, and no position told.
func checkRefused(t *testing.T, v uint8, text string, want api.Errno) {
	t.Helper()
	if p, e := fen.Parse(v, text); e != want || p != (api.Position{}) {
		t.Errorf("Parse of %d %q: %d %+v, not %d", v, text, e, p, want)
	}
}

// bare is the variant's position with an empty board and all fields at nothing.
func bare(v uint8) api.Position {
	return api.Position{Variant: v, Passing: -1, Rooks: [2][2]int8{{-1, -1}, {-1, -1}}}
}

// start is the variant's first position.
func start(v uint8) api.Position {
	p, _ := rules.Start(v)
	return p
}

// dice tell numbers without order, the same ones in each run.
type dice uint64

func (d *dice) next() uint64 {
	*d = *d*6364136223846793005 + 1442695040888963407
	return uint64(*d ^ *d>>29)
}

func (d *dice) below(n int) int { return int((d.next() >> 33) % uint64(n)) }

// written is a position that can be written: any pieces, mostly few or mostly many, the kings often at home.
func (d *dice) written(v uint8) api.Position {
	p := bare(v)
	men := []uint8{1, 2, 3, 4, 5, 6, 9, 10, 11, 12, 13, 14}
	for s, often := 0, 1+d.below(10); s < 64; s++ {
		if d.below(10) < often {
			p.Board[s] = men[d.below(12)]
		}
	}
	p.Turn, p.Passing = uint8(d.below(2)), int8(d.below(65)-1)
	p.Half, p.Full = d.clock(), d.clock()
	for c := range 2 {
		if d.below(4) > 0 {
			d.rights(&p, c)
		}
	}
	if v == three {
		p.Checks = [2]uint8{uint8(d.below(4)), uint8(d.below(4))}
	}
	if v == crazy {
		for s := range 64 {
			if p.Board[s] != 0 && d.below(6) == 0 {
				p.Promoted |= 1 << s
			}
		}
		for i := range 10 {
			p.Pockets[i/5][i%5+1] = uint8(d.below(4))
		}
	}
	return p
}

func (d *dice) clock() int { return d.below([]int{2, 60, 1000, 10001}[d.below(4)]) }

// rights puts the color's king on its home alone, and names rooks on both sides of it.
func (d *dice) rights(p *api.Position, c int) {
	for s := range 64 {
		if int(p.Board[s]) == 8*c+6 {
			p.Board[s] = 0
			p.Promoted &^= 1 << s
		}
	}
	f := d.below(8)
	p.Board[56*c+f] = uint8(8*c + 6)
	if f < 7 && d.below(3) > 0 {
		p.Rooks[c][0] = int8(f + 1 + d.below(7-f))
	}
	if f > 0 && d.below(3) > 0 {
		p.Rooks[c][1] = int8(d.below(f))
	}
}

// wild is a position each of whose bytes is any one.
func (d *dice) wild() api.Position {
	p := api.Position{Variant: uint8(d.below(12)), Promoted: d.next(), Turn: uint8(d.next()), Passing: int8(d.next()), Half: int(d.next()), Full: int(d.next())}
	for s := range p.Board {
		p.Board[s] = uint8(d.next())
	}
	for c := range 2 {
		p.Rooks[c] = [2]int8{int8(d.next()), int8(d.next())}
		for k := range 6 {
			p.Pockets[c][k] = uint8(d.next())
		}
		p.Checks[c] = uint8(d.next())
	}
	return p
}
