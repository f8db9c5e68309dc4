package legal_test

import (
	"slices"
	"testing"

	"kibitzer/after"
	"kibitzer/api"
	"kibitzer/legal"
	"kibitzer/rules"
)

// P17.3

// checkList holds List against what is reckoned plainly, and Is of all moves that may be made against that.
func checkList(t *testing.T, what string, p api.Position) {
	t.Helper()
	got, want := legal.List(p), plainList(p)
	if !slices.Equal(got, want) {
		t.Errorf("%s: %v, not %v: %+v", what, got, want, p)
	}
	for _, m := range after.All(p) {
		if got, want := legal.Is(p, m), slices.Contains(want, m); got != want {
			t.Errorf("%s: Is of %+v: %v, not %v: %+v", what, m, got, want, p)
		}
	}
}

// lists holds that in these variants List tells just the moves of the text, in its order; and with the board turned about as many (where the same holds for Black).
func lists(t *testing.T, in []uint8, texts, text string) {
	t.Helper()
	for _, v := range in {
		p, what, want := placed(v, texts), rules.Name(v)+": "+texts, moves(text)
		if got := legal.List(p); !slices.Equal(got, want) {
			t.Errorf("%s: %v, not %v", what, got, want)
		}
		checkList(t, what, p)
		checkList(t, what+", turned", turned(p))
		if got := legal.List(turned(p)); v != api.Racing && isAlike(p) && len(got) != len(want) {
			t.Errorf("%s, turned: %v", what, got)
		}
	}
}

func TestListOfFirstPositions(t *testing.T) {
	for v, want := range []int{20, 20, 20, 20, 20, 20, 20, 8, 21} {
		p, _ := rules.Start(uint8(v))
		if got := legal.List(p); len(got) != want {
			t.Errorf("%s: %d moves, not %d: %v", rules.Name(p.Variant), len(got), want, got)
		}
		checkList(t, "first", p)
		p.Turn = 1
		checkList(t, "first, Black's turn", p)
	}
}

func TestListInOrder(t *testing.T) {
	lists(t, kingly, "Ke1 Re2 re8 ka8", "e1d1 e1f1 e1d2 e1f2 e2e3 e2e4 e2e5 e2e6 e2e7 e2e8")
	lists(t, kingly, "Ke1 Ra1 Rh1 <a1 >h1 Pa2 Pd2 Pe2 Pf2 Ph2 pd3 ph3 ka8",
		"a1b1 a1c1 a1d1 e1d1 e1f1 h1f1 h1g1 a2a3 a2a4 e2d3 e2e3 e2e4 f2f3 f2f4 e1*a1 e1*h1")
	lists(t, []uint8{api.Crazyhouse}, "Ke1 re4 ka8 @P @N", "e1d1 e1f1 e1d2 e1f2 P@e2 P@e3 N@e2 N@e3")
	lists(t, kingly, "Kh1 Pa7 kh8 nb8",
		"h1g1 h1g2 h1h2 a7a8n a7a8b a7a8r a7a8q a7b8n a7b8b a7b8r a7b8q")
}

// In Antichess takes alone, if there are any.
func TestAntichess(t *testing.T) {
	in := []uint8{api.Antichess}
	lists(t, in, "Pe4 pd5 pf5 pg7", "e4d5 e4f5")
	lists(t, in, "Pe4 pe5 pg7 Kc3", "c3b2 c3c2 c3d2 c3b3 c3d3 c3b4 c3c4 c3d4")
	lists(t, in, "Pe4 pd5 Ka1 pb2 Rh8 Nc1", "a1b2 e4d5")
	lists(t, in, "Ra1 pa5 pf1", "a1f1 a1a5")
	lists(t, in, "Pe5 pd5 =d6 Pa2 Kh1 ka8", "e5d6")
	lists(t, in, "Pe5 pd5 Pa2 ka8", "a2a3 a2a4 e5e6")
	lists(t, in, "Pa7 nb8 Pc7 Kh1 kh8", "a7b8n a7b8b a7b8r a7b8q a7b8k c7b8n c7b8b c7b8r c7b8q c7b8k")
	lists(t, in, "Pa7 pe3", "a7a8n a7a8b a7a8r a7a8q a7a8k")
	// A king takes, is taken, and is attacked, as any piece.
	lists(t, in, "Kd4 ke5 rd8", "d4e5")
	lists(t, in, "Kd4 Na1 ke8 rd8", "a1c2 a1b3 d4c3 d4d3 d4e3 d4c4 d4e4 d4c5 d4d5 d4e5")
	lists(t, in, "Pe4 ke5 Pa2", "a2a3 a2a4")
	lists(t, in, "Pe4 pe5", "")
	lists(t, in, "Pe4", "")
	// Elsewhere who can take needn't.
	lists(t, []uint8{0, 1, 2, 3, 5, 6}, "Pe4 pd5 pf5 Ka1 kh8", "a1b1 a1a2 a1b2 e4d5 e4e5 e4f5")
}

func TestListOfVariants(t *testing.T) {
	lists(t, []uint8{api.KingHill}, "Ke1 ke5", "")
	lists(t, []uint8{api.KingHill}, "Kd3 ka8 rc8", "d3d2 d3e2 d3e3 d3d4 d3e4")
	lists(t, []uint8{api.ThreeCheck}, "Ke1 ka8 + + + black", "")
	lists(t, []uint8{api.ThreeCheck}, "Ka1 rb8 kc8 + + - -", "a1a2")
	lists(t, []uint8{api.Horde}, "Pa1 Pb2 Pc3 ke8", "a1a2 a1a3 b2b3 b2b4 c3c4")
	lists(t, []uint8{api.Horde}, "ke8 black", "")
	lists(t, []uint8{api.Horde}, "Pc6 Pe6 ke8 black", "e8e7 e8d8 e8f8")
	lists(t, []uint8{api.Racing}, "Ka1 Rb1 kh3", "a1a2 a1b2 b1c1 b1d1 b1e1 b1f1 b1g1 b1b2 b1b4 b1b5 b1b6 b1b7 b1b8")
	lists(t, []uint8{api.Racing}, "Ka8 kh7 rb2 black", "b2b1 b2c2 b2d2 b2e2 b2f2 b2g2 b2h2 b2b3 b2b4 b2b5 b2b6 b2b7 h7g6 h7h6 h7g7 h7g8 h7h8")
	lists(t, []uint8{api.Racing}, "Ka8 kh7 rb2", "")
	lists(t, []uint8{api.Racing}, "Ka8 kh8 rb2", "")
	lists(t, []uint8{api.Racing}, "Kh8 ka7 kb7 black", "a7a6 a7b6 a7a8 a7b8 b7a6 b7b6 b7c6 b7c7 b7a8 b7b8 b7c8")
	lists(t, []uint8{api.Racing}, "Kh8 ka6 kb7 black", "")
	lists(t, []uint8{api.Atomic}, "Ke1 Qd1 re5 pd7 ke8", "d1e2 d1d7 e1f1 e1d2 e1f2")
	lists(t, []uint8{api.Atomic}, "Qd1 ke8", "")
	lists(t, []uint8{api.Atomic}, "Ke1 Pa2", "e1d1 e1f1 e1d2 e1e2 e1f2 a2a3 a2a4")
}

func TestListOfMatesAndStalemates(t *testing.T) {
	plain := []uint8{0, 1, 2, 5, 6}
	lists(t, plain, "Kf7 Qg7 kh8 black", "")
	lists(t, plain, "Kf7 Qg6 kh8 black", "")
	lists(t, []uint8{api.Atomic}, "Kf7 Qg7 kh8 black", "h8g8")
	lists(t, []uint8{api.Atomic}, "Kf7 Qg6 kh8 black", "h8g7 h8g8")
	lists(t, plain, "Kf6 Qg7 kh8 black", "")
	lists(t, plain, "Ke6 Qg7 kh8 black", "h8g7")
	lists(t, []uint8{api.Horde}, "Qg7 Pf6 kh8 black", "")
	lists(t, []uint8{0, 1, 2, 3, 5, 6}, "Pa2 ka8", "")
	lists(t, []uint8{0, 1, 2, 3, 5, 6, 8}, "Ra2 ka8", "")
	lists(t, variants, "", "")
}

// Is says yes of List's moves alone: of those between all squares, and beyond them, with all that a move may have besides.
func TestIsOfOthers(t *testing.T) {
	ends := []int8{-128, -65, -64, -8, -1, 64, 65, 72, 127}
	for s := range int8(64) {
		ends = append(ends, s)
	}
	sorts := []api.Move{{}, {Promote: 2}, {Promote: 3}, {Promote: 4}, {Promote: 5}, {Promote: 6}, {Promote: 255}, {Drop: 2}, {Drop: 6}, {Castle: true}, {Drop: 2, Castle: true}}
	for _, p := range []api.Position{
		placed(api.Crazyhouse, "Ke1 Ra1 Rh1 Pe5 Pb7 ra8 nh8 pd5 pf5 pe6 kg8 =d6 >h1 @N @q"),
		turned(placed(api.Antichess, "Kg1 rh1 Qb1 Pa7 nb8 pd4 Pe5 pd5 =d6 Ba1")),
		placed(api.Antichess, "Kg1 Pa7 nh5"),
		placed(api.Atomic, "Ke1 Qd1 Pa2 re5 pd7 ke8"),
		placed(api.KingHill, "Ke4 Qd1 Pa2 pd7 ke8"),
		turned(placed(api.Racing, "Ka1 Rb1 kh3")),
	} {
		list, said := plainList(p), 0
		for _, m := range sorts {
			for _, m.From = range ends {
				for _, m.To = range ends {
					got := legal.Is(p, m)
					if want := slices.Contains(list, m); got != want {
						t.Fatalf("%+v: %v, not %v: %+v", m, got, want, p)
					}
					if got {
						said++
					}
				}
			}
		}
		if said != len(list) {
			t.Errorf("yes of %d moves, not %d: %+v", said, len(list), p)
		}
	}
}

func TestListOfVariantsAndTurnsThatThereAreNot(t *testing.T) {
	p := placed(api.Crazyhouse, "Ke1 Rh1 Pd7 ke8 rh8 pd2 >h1 >h8 @N @n")
	for v := range 256 {
		for turn := range 256 {
			if v < 9 && turn < 2 || v > 12 && turn > 5 && (v+turn)%16 > 0 {
				continue
			}
			q := p
			q.Variant, q.Turn = uint8(v), uint8(turn)
			if got := legal.List(q); len(got) > 0 {
				t.Errorf("variant %d, turn %d: %v", v, turn, got)
			}
			for _, m := range append(moves("e1f1 e1*h1 N@a5 e8f8 d7d8q h1h7 e8d7"), api.Move{}) {
				if legal.Is(q, m) {
					t.Errorf("variant %d, turn %d: %+v is one", v, turn, m)
				}
			}
		}
	}
}

// A list belongs to who asked for it: changed, and with its spare room filled, it changes no other one.
func TestListsAreNew(t *testing.T) {
	for _, p := range []api.Position{placed(api.Crazyhouse, "Ke1 Rh1 re8 ka8 >h1 @N"), placed(api.Antichess, "Pe4 pd5 Ra1"), placed(api.Atomic, "Ke1 ra8 ke8")} {
		one, two := legal.List(p), legal.List(p)
		for i := range one[:cap(one)] {
			one[:cap(one)][i] = api.Move{From: 63, To: 1, Promote: 6, Castle: true}
		}
		if want := plainList(p); !slices.Equal(two, want) || !slices.Equal(legal.List(p), want) {
			t.Errorf("%v, %v, not %v", two, legal.List(p), want)
		}
	}
}

func TestListOfMixed(t *testing.T) {
	told, none := 0, 0
	for _, p := range slices.Concat(mixed(1350), played()[:600]) {
		checkList(t, "mixed", p)
		n := len(plainList(p))
		told += n
		if n == 0 {
			none++
		}
	}
	if told < 15000 || none < 200 {
		t.Errorf("%d moves, %d positions without any are too few to tell much", told, none)
	}
}
