package after_test

import (
	"slices"
	"strconv"
	"testing"

	"kibitzer/after"
	"kibitzer/api"
	"kibitzer/castle"
	"kibitzer/drop"
	"kibitzer/pseudo"
	"kibitzer/rules"
)

// P16.1

// concat are the three lists, one behind the other.
func concat(p api.Position) []api.Move {
	l := append([]api.Move{}, pseudo.List(p)...)
	l = append(l, castle.List(p)...)
	return append(l, drop.List(p)...)
}

func TestAllInOrder(t *testing.T) {
	p := placed(api.Crazyhouse, "Ke1 Rh1 Ra1 >h1 <a1 @N @n")
	var want []api.Move
	for _, text := range []string{
		"a1b1", "a1c1", "a1d1", "a1a2", "a1a3", "a1a4", "a1a5", "a1a6", "a1a7", "a1a8",
		"e1d1", "e1f1", "e1d2", "e1e2", "e1f2",
		"h1f1", "h1g1", "h1h2", "h1h3", "h1h4", "h1h5", "h1h6", "h1h7", "h1h8",
		"e1*a1", "e1*h1",
	} {
		want = append(want, move(text))
	}
	for s := range int8(64) {
		if p.Board[s] == 0 {
			want = append(want, api.Move{From: s, To: s, Drop: api.Knight})
		}
	}
	if got := after.All(p); !slices.Equal(got, want) {
		t.Errorf("%v, not %v", got, want)
	}
	for _, m := range want {
		checkPlainly(t, "in order", p, m)
	}
}

func TestAllOfAllSorts(t *testing.T) {
	told := [3]int{}
	for i, p := range slices.Concat(mixed(4000), played(18, 60)) {
		got, want := after.All(p), concat(p)
		if !slices.Equal(got, want) {
			t.Errorf("%d: %v, not %v: %+v", i, got, want, p)
		}
		told[0] += len(pseudo.List(p))
		told[1] += len(castle.List(p))
		told[2] += len(drop.List(p))
	}
	if told[0] < 50000 || told[1] < 500 || told[2] < 10000 {
		t.Errorf("pieces' moves, castlings, drops: %v are too few to tell much", told)
	}
}

func TestAllOfFirstPositions(t *testing.T) {
	for v, want := range []int{20, 20, 20, 20, 20, 20, 20, 8, 23} {
		p, _ := rules.Start(uint8(v))
		if got := after.All(p); len(got) != want || !slices.Equal(got, concat(p)) {
			t.Errorf("%s: %d moves, not %d: %v", rules.Name(p.Variant), len(got), want, got)
		}
	}
}

// A king that is attacked, or goes where it is, changes nothing.
func TestKingsDoNotCount(t *testing.T) {
	for _, v := range variants {
		p := placed(v, "Ke1 re2 ka8 Ra1")
		want := concat(p)
		if got := after.All(p); len(got) < 10 || !slices.Equal(got, want) {
			t.Errorf("%v, not %v", got, want)
		}
		for _, text := range []string{"e1d1", "e1d2", "a1b1"} {
			checkPlainly(t, rules.Name(v)+", "+text, p, move(text))
		}
		behind(t, []uint8{v}, "Ke1 re2 ka8 Ra1", "a1c1", "Ke1 re2 ka8 Rc1")
	}
	behind(t, []uint8{0, 1, 4, 5, 6, 7, 8}, "Ra1 ka8 Kh1", "a1a8", "Ra8 Kh1")
}

func TestVariantsAndTurnsThatThereAreNot(t *testing.T) {
	full := placed(api.Crazyhouse, "Ke1 Rh1 Pd7 ke8 rh8 pd2 >h1 >h8 @N @n")
	moves := []api.Move{move("e1e2"), move("e1*h1"), move("N@a5"), move("e8e7"), move("e8*h8"), move("d7d8q"), move("d2d1q"), {}}
	for v := range 256 {
		for turn := range 256 {
			if v < 9 && turn < 2 || v > 12 && turn > 5 && (v+turn)%16 > 0 {
				continue
			}
			p := full
			p.Variant, p.Turn = uint8(v), uint8(turn)
			if got := after.All(p); len(got) > 0 {
				t.Errorf("variant %d, turn %d: %v", v, turn, got)
			}
			for _, m := range moves {
				checkRefused(t, "variant "+strconv.Itoa(v)+", turn "+strconv.Itoa(turn), p, m)
			}
		}
	}
}

// A list belongs to who asked for it: changed, and with its spare room filled, it changes no other one.
func TestListsAreNew(t *testing.T) {
	p := placed(api.Crazyhouse, "Ke1 Rh1 >h1 @N")
	one, two := after.All(p), after.All(p)
	for i := range one[:cap(one)] {
		one[:cap(one)][i] = api.Move{From: 63, To: 1, Promote: 6, Castle: true}
	}
	if want := concat(p); !slices.Equal(two, want) || !slices.Equal(after.All(p), want) {
		t.Errorf("%v, %v, not %v", two, after.All(p), want)
	}
}
