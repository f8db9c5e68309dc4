package legal_test

import (
	"fmt"
	"slices"
	"testing"

	"kibitzer/api"
	"kibitzer/legal"
	"kibitzer/rules"
)

// P17.2

// The wins that the tests name.
var (
	going      = api.Result{}
	whiteKing  = api.Result{State: api.WhiteWins, Why: api.ByKing}
	blackKing  = api.Result{State: api.BlackWins, Why: api.ByKing}
	drawKing   = api.Result{State: api.Draw, Why: api.ByKing}
	whiteCheck = api.Result{State: api.WhiteWins, Why: api.ByChecks}
	blackCheck = api.Result{State: api.BlackWins, Why: api.ByChecks}
	whiteLast  = api.Result{State: api.WhiteWins, Why: api.ByLast}
	blackLast  = api.Result{State: api.BlackWins, Why: api.ByLast}
)

// The numbers that are told are the chapter's.
func TestNumbersOfResults(t *testing.T) {
	for _, x := range []struct {
		v          uint8
		texts      string
		state, why uint8
	}{
		{0, "Ke1 ke8", 0, 0},
		{3, "Ke1 black", 1, 6},
		{5, "Ke1 ke8 - - -", 2, 7},
		{4, "Ke1 black", 2, 8},
		{8, "Ka8 kh8", 3, 6},
	} {
		if got := legal.Won(placed(x.v, x.texts)); got.State != x.state || got.Why != x.why {
			t.Errorf("%s, %s: %v", rules.Name(x.v), x.texts, got)
		}
	}
}

// checkWon holds Won against what is reckoned plainly.
func checkWon(t *testing.T, what string, p api.Position) {
	t.Helper()
	if got, want := legal.Won(p), plainWon(p); got != want {
		t.Errorf("%s: %v, not %v: %+v", what, got, want, p)
	}
}

// won holds the win of the position that the texts tell against the wanted one.
func won(t *testing.T, v uint8, texts string, want api.Result) {
	t.Helper()
	p, what := placed(v, texts), rules.Name(v)+": "+texts
	if plain := plainWon(p); plain != want {
		t.Fatalf("%s: the test wants %v, plainly it is %v", what, want, plain)
	}
	if got := legal.Won(p); got != want {
		t.Errorf("%s: %v, not %v", what, got, want)
	}
	if list := legal.List(p); want != going && len(list) > 0 {
		t.Errorf("%s: behind a win: %v", what, list)
	}
}

// wonByEither does so of the position turned about, too, in variants whose colors are alike.
func wonByEither(t *testing.T, v uint8, texts string, want api.Result) {
	t.Helper()
	won(t, v, texts, want)
	q := turned(placed(v, texts))
	if got := legal.Won(q); got != turnedResult(want) {
		t.Errorf("%s: %s, turned: %v, not %v", rules.Name(v), texts, got, turnedResult(want))
	}
	checkWon(t, texts+", turned", q)
}

func TestAtomic(t *testing.T) {
	for texts, want := range map[string]api.Result{
		"Ra1 ka8":             blackKing,
		"Ra1 ka8 black":       going,
		"Ra1 ka8 kb8":         blackKing,
		"Ka1":                 going,
		"Ka1 black":           whiteKing,
		"Ka1 Kb1 rh8 black":   whiteKing,
		"Ra1 ra8":             blackKing,
		"Ra1 ra8 black":       whiteKing,
		"":                    blackKing,
		"Ka1 ka8":             going,
		"Ka1 Ka2 ka8":         going,
		"Kd4 ke8":             going,
		"Ka8 kh8":             going,
		"Ka1 ka8 + + + black": going,
	} {
		wonByEither(t, api.Atomic, texts, want)
	}
	// What is no piece is no king.
	for _, stranger := range strangers {
		p := placed(api.Atomic, "ka8")
		p.Board[4] = stranger
		if got := legal.Won(p); got != blackKing {
			t.Errorf("%d for a king: %v", stranger, got)
		}
	}
}

func TestThreeChecks(t *testing.T) {
	for white := range 256 {
		for black := range 256 {
			for turn := range uint8(2) {
				p := placed(api.ThreeCheck, "Ke1 ke8")
				p.Turn, p.Checks = turn, [2]uint8{uint8(white), uint8(black)}
				want := going
				switch {
				case white > 2 && black > 2:
					want = api.Result{State: 2 - turn, Why: api.ByChecks}
				case white > 2:
					want = whiteCheck
				case black > 2:
					want = blackCheck
				}
				if got := legal.Won(p); got != want {
					t.Errorf("checks %v, turn %d: %v, not %v", p.Checks, turn, got, want)
				}
			}
		}
	}
	for texts, want := range map[string]api.Result{
		"Ke1 ke8 + +":                   going,
		"Ke1 ke8 + + -":                 going,
		"Ke1 ke8 + + - -":               going,
		"Ke1 ke8 + + - - black":         going,
		"Ke1 ke8 + + + black":           whiteCheck,
		"Ke1 ke8 + + +":                 whiteCheck,
		"Ke1 ke8 + + + +":               whiteCheck,
		"Ke1 ke8 + + - - -":             blackCheck,
		"Ke1 ke8 + - - - - black":       blackCheck,
		"Ke1 ke8 + + + - - -":           blackCheck,
		"Ke1 ke8 + + + - - - black":     whiteCheck,
		"Ke1 ke8 + + + - - - -":         blackCheck,
		"Ke1 ke8 + + + + + - - - black": whiteCheck,
		"+ + +":                         whiteCheck,
	} {
		wonByEither(t, api.ThreeCheck, texts, want)
	}
}

func TestChecksOfOthers(t *testing.T) {
	for _, v := range variants {
		for checks := range 6 {
			p := placed(v, "Ke1 ke6 Ra1 ra6")
			p.Checks = [2]uint8{uint8(checks), uint8(2 * checks)}
			if got := legal.Won(p); v != api.ThreeCheck && got != going {
				t.Errorf("%s: checks %v: %v", rules.Name(v), p.Checks, got)
			}
		}
	}
}

func TestHill(t *testing.T) {
	hill := []int{at("d4"), at("e4"), at("d5"), at("e5")}
	for white := range 64 {
		for black := range 64 {
			for turn := range uint8(2) {
				if white == black {
					continue
				}
				p := placed(api.KingHill, "")
				p.Turn, p.Board[white], p.Board[black] = turn, 6, 14
				want := going
				switch whites, blacks := slices.Contains(hill, white), slices.Contains(hill, black); {
				case whites && blacks:
					want = api.Result{State: 2 - turn, Why: api.ByKing}
				case whites:
					want = whiteKing
				case blacks:
					want = blackKing
				}
				if got := legal.Won(p); got != want {
					t.Errorf("kings on %d and %d, turn %d: %v, not %v", white, black, turn, got, want)
				}
				checkWon(t, "hill", p)
			}
		}
	}
	for texts, want := range map[string]api.Result{
		"Ke1 ke5":       blackKing,
		"Ke1 ke5 black": blackKing,
		"Kd4 ka8":       whiteKing,
		"Kd4 ke5":       blackKing,
		"Kd4 ke5 black": whiteKing,
		"Kd4":           whiteKing,
		"ke4":           blackKing,
		"":              going,
		"Qd4 Re4 Nd5":   going,
		"Kc4 kf5 Qd4":   going,
	} {
		wonByEither(t, api.KingHill, texts, want)
	}
	// The first king counts: the one on the least square.
	won(t, api.KingHill, "Ka1 Kd4 ka8", going)
	won(t, api.KingHill, "Kh8 Kd4 ka8", whiteKing)
	won(t, api.KingHill, "Ka8 ke5 kh1", going)
	won(t, api.KingHill, "Ka8 ke5 kh8", blackKing)
	for _, v := range []uint8{0, 1, 2, 3, 4, 5, 7, 8} {
		for _, s := range []string{"d4", "e4", "d5", "e5"} {
			won(t, v, "Ra1 ka6 K"+s, going)
			won(t, v, "Pa2 Ka1 k"+s, going)
		}
	}
}

func TestHordesEnd(t *testing.T) {
	for texts, want := range map[string]api.Result{
		"ke8":           blackLast,
		"ke8 black":     blackLast,
		"":              blackLast,
		"black":         blackLast,
		"Pa2 ke8":       going,
		"Qa2 ke8 black": going,
		"Ka1 ke8":       going,
		"Pa2":           going,
		"Pa2 black":     going,
		"Ka8 kh8 Pd4":   going,
		"ra1 pe4":       blackLast,
		"Kd4 ke5 - - -": going,
	} {
		won(t, api.Horde, texts, want)
	}
	for _, stranger := range strangers {
		p := placed(api.Horde, "ke8")
		p.Board[20] = stranger
		if got := legal.Won(p); got != blackLast {
			t.Errorf("White has %d: %v", stranger, got)
		}
	}
	for _, man := range men[:6] {
		for s := range 64 {
			p := placed(api.Horde, "ke8")
			p.Board[s] = man
			if got := legal.Won(p); got != going {
				t.Errorf("White has %d on %d: %v", man, s, got)
			}
		}
	}
}

func TestAntichessWithoutMen(t *testing.T) {
	for texts, want := range map[string]api.Result{
		"Ra1":             blackLast,
		"Ra1 black":       blackLast,
		"Ka1 Qa2":         blackLast,
		"pa7":             whiteLast,
		"pa7 black":       whiteLast,
		"":                whiteLast,
		"black":           blackLast,
		"Pa2 pa7":         going,
		"Pa2 pa7 black":   going,
		"Pa4 pa5":         going,
		"Kd4 ka8 + + +":   going,
		"Qa1 ra8":         going,
		"Ka8 ke5 black":   going,
		"Pa4 pa5 @N @q":   going,
		"@N @q":           whiteLast,
		"Kd4 black @q -":  blackLast,
		"Pe4 pe5 kd8 Kd1": going,
	} {
		wonByEither(t, api.Antichess, texts, want)
	}
	for _, stranger := range strangers {
		p := placed(api.Antichess, "ra8")
		p.Board[20] = stranger
		if got := legal.Won(p); got != whiteLast {
			t.Errorf("White has %d: %v", stranger, got)
		}
	}
}

func TestRace(t *testing.T) {
	for texts, want := range map[string]api.Result{
		// Nobody, both, Black alone: whoever is to move.
		"Ka7 kh7":       going,
		"Ka7 kh7 black": going,
		"Ka8 kh8":       drawKing,
		"Ka8 kh8 black": drawKing,
		"Ka7 kh8":       blackKing,
		"Ka7 kh8 black": blackKing,
		"kh8":           blackKing,
		"ka8 black":     blackKing,
		"":              going,
		"black":         going,
		"Ka1":           going,
		// White alone, White to move.
		"Ka8 kh7": whiteKing,
		"Ka8 kh1": whiteKing,
		"Ka8":     whiteKing,
		"Kh8 ra8": whiteKing,
		// White alone, Black to move, whose king comes to rank 7.
		"Ka8 kh7 black":                 going,
		"Ka8 kd7 black":                 going,
		"Kc8 ke7 black":                 going,
		"Ka8 kh7 Rc8 black":             whiteKing,
		"Ka8 kh7 Rc8 rd8 black":         going,
		"Ka8 kh7 Ng8 Bb1 black":         going,
		"Ka8 kh7 Qd8 rf8 black":         going,
		"Ka8 kh7 Rg1 black":             going,
		"Ka8 kh7 Rg1 Bb2 black":         whiteKing,
		"Ka8 kh7 Rg1 Bb2 ng7 black":     going,
		"Ka8 kh7 Rg1 Bb2 rh8 black":     whiteKing,
		"Ka8 kh7 rg8 rh8 black":         whiteKing,
		"Ka8 Nb8 kh7 rg8 black":         going,
		"Ka8 kh7 rg8 black":             whiteKing,
		"Ka8 kh7 Rh1 Rg1 black":         whiteKing,
		"Kf8 kh7 black":                 going,
		"Kg8 kg6 black":                 whiteKing,
		"Kf8 kg7 black":                 going,
		"Ka8 kh6 black":                 whiteKing,
		"Ka8 kh6 rh1 qg2 black":         whiteKing,
		"Ka8 kh1 black":                 whiteKing,
		"Ka8 black":                     whiteKing,
		"Ka8 rh7 qg8 black":             whiteKing,
		"Kd8 kb7 bb8 na8 Nc8 Na5 black": whiteKing,
	} {
		won(t, api.Racing, texts, want)
	}
	for _, v := range []uint8{0, 1, 2, 3, 4, 5, 6, 7} {
		won(t, v, "Ka8 kh8", going)
		won(t, v, "Ka8 kh1", going)
		won(t, v, "Ka1 kh8 black", going)
	}
	// The first king counts: the one on the least square.
	won(t, api.Racing, "Ka8 Kb1 kh7", going)
	won(t, api.Racing, "Kb1 kh8 ka8", blackKing)
	won(t, api.Racing, "Kb1 kh8 ka1", going)
	won(t, api.Racing, "Ka8 kd1 kh8 black", whiteKing)
	won(t, api.Racing, "Ka8 kd7 kh8 black", going)
	won(t, api.Racing, "Ka8 kd7 kh7 black", going)
	// White takes it, and the one that is the first then stands on rank 7: that is no move of Black's.
	won(t, api.Racing, "Ka8 Rc5 kc1 kh8", whiteKing)
}

// Where Black has several kings, a move to rank 7 counts if it is one of the first of them, whichever is the first one behind it.
func TestRaceWithASecondKing(t *testing.T) {
	for texts, want := range map[string]api.Result{
		"Kh8 ka7 kb7 black":         going,
		"Kh8 ka7 kb7":               whiteKing,
		"Ka8 kd7 kg7 black":         going,
		"Ka8 kf7 ke8 black":         going,
		"Kh8 ka7 ka8 black":         going,
		"Kh8 ka7 kb7 Rc8 black":     going,
		"Kh8 ka7 kb7 kd7 kf8 black": going,
		// Another one alone comes to rank 7.
		"Kh8 ka6 kb7 black":     whiteKing,
		"Kd8 kg7 kh2 black":     whiteKing,
		"Kh8 kc7 kg4 black":     whiteKing,
		"Kh8 ka6 kb7 kc7 black": whiteKing,
		"Kh8 ka7 kb7 kd5 black": whiteKing,
		// Behind each of its moves there the second one is in check, or gives it.
		"Kh8 ka7 kb7 Rb1 black":     whiteKing,
		"Kh8 ka7 kb7 Bh1 black":     whiteKing,
		"Kh8 ka7 kc7 Rc1 black":     whiteKing,
		"Kh8 kc7 kg7 black":         whiteKing,
		"Kh8 ka7 kb7 Ra1 Rb1 black": whiteKing,
		// Only the first one is in check, and leaves it.
		"Kh8 ka7 kb7 Ra1 black": going,
		// Its squares there are full of Black's; on one of them stands a piece of White's.
		"Kh8 ka7 kb7 ra8 rb8 black":     whiteKing,
		"Kh8 ka7 kb7 ra8 Nb8 black":     going,
		"Kh8 ka7 kb7 ra8 Nb8 Qb1 black": whiteKing,
	} {
		won(t, api.Racing, texts, want)
	}
}

// Every two squares of Black's kings on the ranks near the goal, with White's men and without.
func TestRaceOfTwoKings(t *testing.T) {
	for first := 32; first < 64; first++ {
		for second := first + 1; second < 64; second++ {
			for _, texts := range []string{"", "Rc1", "Rc1 Be2 rg8"} {
				for _, white := range []string{"Ka8 ", "Kf8 ", "Kf7 "} {
					p := placed(api.Racing, white+texts+" black")
					if p.Board[first] != 0 || p.Board[second] != 0 {
						continue
					}
					p.Board[first], p.Board[second] = 14, 14
					checkWon(t, "two kings", p)
				}
			}
		}
	}
}

// Every two squares of kings, with a rook of White's and without, Turn White and Black.
func TestRaceOfAllSquares(t *testing.T) {
	for white := range 64 {
		for black := range 64 {
			for _, rook := range []int{-1, 57, 6} {
				p := placed(api.Racing, "")
				p.Board[white], p.Board[black] = 6, 14
				if rook >= 0 && p.Board[rook] == 0 {
					p.Board[rook] = 4
				}
				checkWon(t, "race", p)
				p.Turn = 1
				checkWon(t, "race", p)
			}
		}
	}
}

func TestNoWinsOfOtherVariants(t *testing.T) {
	for _, v := range []uint8{0, 1, 2} {
		for _, texts := range []string{"", "Ke1", "ke8", "Kd4 ke5", "Ka8 kh8", "Ke1 ke8 + + +", "Ke1 ke8 - - -", "Kf7 Qg7 kh8 black", "Ka8 Kb7 Kc6"} {
			won(t, v, texts, going)
			won(t, v, texts+" black", going)
		}
	}
}

func TestWonOfFirstPositions(t *testing.T) {
	for _, v := range variants {
		p, _ := rules.Start(v)
		if got := legal.Won(p); got != going {
			t.Errorf("%s: %v", rules.Name(v), got)
		}
	}
}

func TestWonOfVariantsAndTurnsThatThereAreNot(t *testing.T) {
	for _, texts := range []string{"", "Ka1", "ka8", "Kd4 kd5", "Ka8 kh8", "Ka8 kh1 + + + - - -"} {
		for v := range 256 {
			for turn := range 256 {
				if v < 9 && turn < 2 {
					continue
				}
				p := placed(uint8(v), texts)
				p.Turn = uint8(turn)
				if got := legal.Won(p); got != going {
					t.Errorf("%s: variant %d, turn %d: %v", texts, v, turn, got)
				}
			}
		}
	}
}

func TestWonOfMixed(t *testing.T) {
	told := map[string]int{}
	for _, p := range slices.Concat(mixed(9000), played()) {
		checkWon(t, "mixed", p)
		told[fmt.Sprint(rules.Name(p.Variant), plainWon(p))]++
	}
	for _, name := range []string{"atomic{1 6}", "atomic{2 6}", "threecheck{1 7}", "threecheck{2 7}", "kinghill{1 6}", "kinghill{2 6}", "horde{2 8}", "antichess{1 8}", "antichess{2 8}", "racing{1 6}", "racing{2 6}", "racing{3 6}"} {
		if told[name] < 5 {
			t.Errorf("%s: %d positions are too few to tell much", name, told[name])
		}
	}
}
