package after_test

import (
	"slices"
	"testing"

	"kibitzer/after"
	"kibitzer/api"
)

// P16.2: moves that may not be made

func TestRefused(t *testing.T) {
	p := placed(api.Crazyhouse, "Ke1 Ra1 Rh1 Pe5 Pb7 Pa2 ra8 nh8 pd5 pf5 pe6 Nc3 =d6 >h1 @N @n @q")
	for _, m := range []api.Move{
		{},
		{From: 4, To: 4},
		{From: 4, To: 20},
		{From: 0, To: 4},
		{From: 36, To: 44},
		{From: 36, To: 45},
		{From: 36, To: 35},
		{From: 8, To: 32},
		{From: 8, To: 17},
		{From: 16, To: 24},
		{From: 56, To: 57},
		{From: 4, To: 6},
		{From: 4, To: 0},
		{From: 4, To: 7},
		// Castlings: without a right, to elsewhere, with what they don't have.
		{From: 4, To: 0, Castle: true},
		{From: 4, To: 6, Castle: true},
		{From: 4, To: 5, Castle: true},
		{From: 7, To: 4, Castle: true},
		{From: 60, To: 63, Castle: true},
		{From: 4, To: 7, Castle: true, Promote: api.Queen},
		{From: 4, To: 7, Castle: true, Drop: api.Knight},
		{From: 36, To: 43, Castle: true},
		// What becomes something.
		{From: 49, To: 57},
		{From: 49, To: 57, Promote: api.Pawn},
		{From: 49, To: 57, Promote: api.King},
		{From: 49, To: 57, Promote: 7},
		{From: 49, To: 57, Promote: 8 + api.Queen},
		{From: 49, To: 57, Promote: 255},
		{From: 36, To: 43, Promote: api.Queen},
		{From: 0, To: 3, Promote: api.Queen},
		// Drops: of what isn't held, on what isn't empty, to elsewhere.
		{From: 30, To: 30, Drop: api.Pawn},
		{From: 30, To: 30, Drop: api.Queen},
		{From: 30, To: 30, Drop: api.King},
		{From: 30, To: 30, Drop: 8 + api.Knight},
		{From: 30, To: 30, Drop: 255},
		{From: 30, To: 30},
		{From: 0, To: 0, Drop: api.Knight},
		{From: 56, To: 56, Drop: api.Knight},
		{From: 30, To: 31, Drop: api.Knight},
		{From: 1, To: 18, Drop: api.Knight},
		{From: 30, To: 30, Drop: api.Knight, Castle: true},
		{From: 30, To: 30, Drop: api.Knight, Promote: api.Knight},
		{From: 64, To: 64, Drop: api.Knight},
		{From: -1, To: -1, Drop: api.Knight},
		{From: -128, To: 127},
		{From: 100, To: 43},
		{From: 36, To: 107},
		{From: -28, To: 43},
	} {
		checkRefused(t, "refused", p, m)
	}
	// The moves beside which these lie are made.
	for _, text := range []string{"e5d6", "e1*h1", "N@g4", "b7b8q", "b7a8n", "a2a4", "a1b1"} {
		checkPlainly(t, text, p, move(text))
	}
}

// Any move that there is room for: just those of All are made.
func TestAllMovesThereAre(t *testing.T) {
	for _, p := range []api.Position{
		placed(api.Crazyhouse, "Ke1 Ra1 Rh1 Pe5 Pb7 ra8 nh8 pd5 pf5 pe6 =d6 >h1 @N @q"),
		turned(placed(api.Antichess, "Kg1 rh1 Qb1 Pa7 pd4 Pe5 pd5 =d6 Ba1")),
	} {
		all := after.All(p)
		for from := -128; from < 128; from++ {
			for to := -128; to < 128; to++ {
				for _, m := range []api.Move{{}, {Promote: 1}, {Promote: 5}, {Promote: 6}, {Promote: 255}, {Drop: 1}, {Drop: 2}, {Drop: 6}, {Castle: true}, {Promote: 5, Castle: true}, {Drop: 2, Castle: true}} {
					m.From, m.To = int8(from), int8(to)
					if slices.Contains(all, m) {
						checkPlainly(t, "of all", p, m)
						continue
					}
					checkRefused(t, "of all", p, m)
				}
			}
		}
	}
}

// What one position's move is, another one's isn't: each is asked for all of the other ones' moves.
func TestMovesOfOtherPositions(t *testing.T) {
	l := append(mixed(90), played(9, 8)...)
	var moves []api.Move
	for _, p := range l {
		moves = append(moves, after.All(p)...)
	}
	slices.SortFunc(moves, func(a, b api.Move) int {
		return (int(a.From)*64+int(a.To))*9 - (int(b.From)*64+int(b.To))*9 + int(a.Promote) - int(b.Promote)
	})
	moves = slices.Compact(moves)
	made := 0
	for _, p := range l {
		all := after.All(p)
		for _, m := range moves {
			if slices.Contains(all, m) {
				made++
				checkPlainly(t, "of others", p, m)
				continue
			}
			checkRefused(t, "of others", p, m)
		}
	}
	if made == 0 || made == len(moves)*len(l) {
		t.Errorf("%d made of %d moves of %d positions", made, len(moves), len(l))
	}
}
