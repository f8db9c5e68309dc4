package rules_test

import (
	"math"
	"slices"
	"strings"
	"testing"

	"kibitzer/api"
	"kibitzer/rules"
)

// The boards that the variants begin with, from the rank 7 down; small letters are Black's.
const (
	chessBoard  = "rnbqkbnr/pppppppp/......../......../......../......../PPPPPPPP/RNBQKBNR"
	hordeBoard  = "rnbqkbnr/pppppppp/......../.PP..PP./PPPPPPPP/PPPPPPPP/PPPPPPPP/PPPPPPPP"
	racingBoard = "......../......../......../......../......../......../krbnNBRK/qrbnNBRQ"
)

// number is the piece's of a letter: read off api's remark, not reckoned as the layer does.
func number(letter byte) uint8 {
	switch at := strings.IndexByte(".PNBRQK", letter); {
	case at >= 0:
		return uint8(at)
	default:
		return 8 + uint8(strings.IndexByte(".pnbrqk", letter))
	}
}

// drawn is the board of a text.
func drawn(text string) [64]uint8 {
	var board [64]uint8
	for i, line := range strings.Split(text, "/") {
		for file := range 8 {
			board[8*(7-i)+file] = number(line[file])
		}
	}
	return board
}

// bare is a first position with every field written out, but for its board and rooks.
func bare(v uint8, board string, white, black [2]int8) api.Position {
	return api.Position{
		Variant:  v,
		Board:    drawn(board),
		Promoted: 0,
		Pockets:  [2][6]uint8{},
		Turn:     0,
		Rooks:    [2][2]int8{white, black},
		Passing:  -1,
		Checks:   [2]uint8{},
		Half:     0,
		Full:     1,
	}
}

// firsts are the first positions of the variants, by their numbers.
func firsts() []api.Position {
	outer, no := [2]int8{7, 0}, [2]int8{-1, -1}
	return []api.Position{
		bare(0, chessBoard, outer, outer),
		bare(1, chessBoard, outer, outer),
		bare(2, chessBoard, outer, outer),
		bare(3, chessBoard, outer, outer),
		bare(4, chessBoard, no, no),
		bare(5, chessBoard, outer, outer),
		bare(6, chessBoard, outer, outer),
		bare(7, hordeBoard, no, outer),
		bare(8, racingBoard, no, no),
	}
}

// checkField tells a field that is not as it must be.
func checkField[T comparable](t *testing.T, what string, of int, got, want T) {
	t.Helper()
	if got != want {
		t.Errorf("%s of %d: %v, not %v", what, of, got, want)
	}
}

func checkPosition(t *testing.T, of int, got, want api.Position) {
	t.Helper()
	checkField(t, "Variant", of, got.Variant, want.Variant)
	checkField(t, "Board", of, got.Board, want.Board)
	checkField(t, "Promoted", of, got.Promoted, want.Promoted)
	checkField(t, "Pockets", of, got.Pockets, want.Pockets)
	checkField(t, "Turn", of, got.Turn, want.Turn)
	checkField(t, "Rooks", of, got.Rooks, want.Rooks)
	checkField(t, "Passing", of, got.Passing, want.Passing)
	checkField(t, "Checks", of, got.Checks, want.Checks)
	checkField(t, "Half", of, got.Half, want.Half)
	checkField(t, "Full", of, got.Full, want.Full)
}

func TestStart(t *testing.T) {
	for v, want := range firsts() {
		got, ok := rules.Start(uint8(v))
		if !ok {
			t.Errorf("Start %d: no", v)
		}
		checkPosition(t, v, got, want)
	}
}

func TestStartOfNoVariant(t *testing.T) {
	for _, v := range outside() {
		if p, ok := rules.Start(v); ok || p != (api.Position{}) {
			t.Errorf("Start %d: %v, %v, not a zero position, false", v, p, ok)
		}
	}
}

// TestStartFitsTheTable holds the positions against what the variants have.
func TestStartFitsTheTable(t *testing.T) {
	for _, r := range rows() {
		p, _ := rules.Start(r.variant)
		pawns, kings := false, [2]int{}
		for _, there := range p.Board {
			pawns = pawns || there%8 == api.Pawn
			if there%8 == api.King {
				kings[there/8]++
			}
		}
		checkBool(t, "pawns on the board", r.variant, pawns, r.pawns)
		checkBool(t, "rights", r.variant, p.Rooks != [2][2]int8{{-1, -1}, {-1, -1}}, r.castles)
		if r.white && kings[0] != 1 || r.black && kings[1] != 1 {
			t.Errorf("Start %d: kings %v", r.variant, kings)
		}
	}
}

// chosen960 are ranks of some numbers, by the chapter's words; the first one is the chapter's example.
func chosen960() map[int]string {
	return map[int]string{
		0:   "BBQNNRKR",
		1:   "BQNBNRKR",
		3:   "BQNNRKRB",
		4:   "QBBNNRKR",
		15:  "QNNRKRBB",
		16:  "BBNQNRKR",
		80:  "BBNNRKRQ",
		96:  "BBQNRNKR",
		384: "BBQRNNKR",
		518: "RNBQKBNR",
		534: "RNBKQBNR",
		864: "BBQRKRNN",
		959: "RKRNNQBB",
	}
}

// lined is the board of chess960 with that rank.
func lined(rank string) string {
	empty := "/......../......../......../......../"
	return strings.ToLower(rank) + "/pppppppp" + empty + "PPPPPPPP/" + rank
}

func TestStart960Chosen(t *testing.T) {
	for n, rank := range chosen960() {
		got, ok := rules.Start960(n)
		if !ok {
			t.Errorf("Start960 %d: no", n)
		}
		files := [2]int8{int8(strings.LastIndexByte(rank, 'R')), int8(strings.IndexByte(rank, 'R'))}
		checkPosition(t, n, got, bare(1, lined(rank), files, files))
	}
}

// filesOf are the files of rank 0 on which a kind stands, rising.
func filesOf(p api.Position, kind uint8) []int {
	var l []int
	for file, there := range p.Board[:8] {
		if there == kind {
			l = append(l, file)
		}
	}
	return l
}

// among tells which of the files on which none of these kinds stands that file is, from 0 on.
func among(p api.Position, file int, but ...uint8) int {
	at := 0
	for _, there := range p.Board[:file] {
		if !slices.Contains(but, there) {
			at++
		}
	}
	return at
}

// numberOf reckons back from a first position of chess960 to its number; -1, if two bishops, two knights, a queen, and a king between two rooks are not what stands there.
func numberOf(p api.Position) int {
	bishops, knights, rooks := filesOf(p, 3), filesOf(p, 2), filesOf(p, 4)
	queens, kings := filesOf(p, 5), filesOf(p, 6)
	if len(bishops) != 2 || len(knights) != 2 || len(rooks) != 2 || len(queens) != 1 || len(kings) != 1 {
		return -1
	}
	if rooks[0] > kings[0] || kings[0] > rooks[1] || bishops[0]%2 == bishops[1]%2 {
		return -1
	}
	odd, even := bishops[0], bishops[1]
	if odd%2 == 0 {
		odd, even = even, odd
	}
	a, b := among(p, knights[0], 3, 5), among(p, knights[1], 3, 5)
	// Ahead of the pair come those that begin with a lesser number, and those with the same one and a lesser second.
	pair := 0
	for first := range a {
		pair += 4 - first
	}
	pair += b - a - 1
	return (odd-1)/2 + 4*(even/2) + 16*among(p, queens[0], 3) + 96*pair
}

func TestStart960All(t *testing.T) {
	for n := range 960 {
		p, ok := rules.Start960(n)
		if !ok {
			t.Errorf("Start960 %d: no", n)
		}
		if back := numberOf(p); back != n {
			t.Errorf("Start960 %d: the rank %v is that of %d", n, p.Board[:8], back)
		}
		var letters []byte
		for _, there := range p.Board[:8] {
			letters = append(letters, ".PNBRQK"[there%7])
		}
		rooks := filesOf(p, 4)
		if len(rooks) != 2 {
			t.Fatalf("Start960 %d: rooks on %v", n, rooks)
		}
		files := [2]int8{int8(rooks[1]), int8(rooks[0])}
		checkPosition(t, n, p, bare(1, lined(string(letters)), files, files))
	}
}

func TestStart960TwoAreUnlike(t *testing.T) {
	seen := map[[64]uint8]int{}
	for n := range 960 {
		p, _ := rules.Start960(n)
		if other, ok := seen[p.Board]; ok {
			t.Errorf("Start960 %d is that of %d", n, other)
		}
		seen[p.Board] = n
	}
	if len(seen) != 960 {
		t.Errorf("%d boards", len(seen))
	}
}

// TestStart960Shape asks of each number for the king between the rooks, the bishops on unlike files, and the rooks that castle, on both homes.
func TestStart960Shape(t *testing.T) {
	for n := range 960 {
		p, _ := rules.Start960(n)
		for color := range 2 {
			home := p.Board[56*color : 56*color+8]
			man := func(kind int) uint8 { return uint8(8*color + kind) }
			king := slices.Index(home, man(6))
			right, left := int(p.Rooks[color][0]), int(p.Rooks[color][1])
			if left < 0 || left >= king || king >= right || right > 7 {
				t.Fatalf("Start960 %d: king on the file %d, rooks on %v", n, king, p.Rooks[color])
			}
			checkField(t, "rook towards h", n, home[right], man(4))
			checkField(t, "rook towards a", n, home[left], man(4))
			parity := [2]int{}
			for file, there := range home {
				if there == man(3) {
					parity[file%2]++
				}
			}
			checkField(t, "bishops by parity", n, parity, [2]int{1, 1})
		}
	}
}

func TestStart960OfTheUsualNumber(t *testing.T) {
	p, ok := rules.Start960(518)
	ours, _ := rules.Start(api.Chess960)
	standard, _ := rules.Start(api.Standard)
	checkField(t, "told", 518, ok, true)
	checkPosition(t, 518, p, ours)
	standard.Variant = api.Chess960
	checkPosition(t, 518, p, standard)
}

func TestStart960OfNoNumber(t *testing.T) {
	far := []int{-1, -2, -4, -96, -442, -959, -960, -961, 960, 961, 1023, 1024, 1478, 1920, 1 << 16, 1 << 31, 1 << 32, 1<<32 + 518, -1 << 32, math.MinInt, math.MinInt + 518, math.MaxInt - 1, math.MaxInt}
	for n := range 2000 {
		far = append(far, -1-n, 960+n)
	}
	for _, n := range far {
		if p, ok := rules.Start960(n); ok || p != (api.Position{}) {
			t.Errorf("Start960 %d: %v, %v, not a zero position, false", n, p, ok)
		}
	}
}

// TestStartIsAnswerOfItsOwn changes what was told, and asks once more.
func TestStartIsAnswerOfItsOwn(t *testing.T) {
	for v, want := range firsts() {
		p, _ := rules.Start(uint8(v))
		p.Board[0], p.Rooks[0][0], p.Full = 99, 99, 99
		again, _ := rules.Start(uint8(v))
		checkPosition(t, v, again, want)
	}
}
