package after_test

import (
	"slices"
	"strconv"
	"testing"

	"kibitzer/after"
	"kibitzer/api"
	"kibitzer/attack"
	"kibitzer/rules"
)

// P16.2: what is passing, clocks, checks, turns

// Each pawn's two steps, with one piece more anywhere on the square beside where it comes to, or elsewhere.
func TestPassing(t *testing.T) {
	for _, v := range variants {
		for file := range 8 {
			p := placed(v, "")
			p.Board[8+file] = api.Pawn
			m := api.Move{From: int8(8 + file), To: int8(24 + file)}
			for s := range 64 {
				if s%8 == file && s < 32 {
					continue
				}
				for _, number := range append(men, strangers...) {
					q := p
					q.Board[s] = number
					want := int8(-1)
					if number == 9 && s/8 == 3 && abs(s%8-file) == 1 {
						want = int8(16 + file)
					}
					checkPassing(t, q, m, want)
				}
			}
		}
	}
}

// checkPassing holds what is passing behind the move against the square, or -1, and so with the board turned about.
func checkPassing(t *testing.T, p api.Position, m api.Move, want int8) {
	t.Helper()
	for range 2 {
		for _, passing := range []int8{-1, 19, 44} {
			p.Passing = passing
			if got, ok := after.Move(p, m); !ok || got.Passing != want {
				t.Errorf("%s, %+v: %v, %d, not %d: %+v", rules.Name(p.Variant), m, ok, got.Passing, want, p)
			}
		}
		p, m = turned(p), turnedMove(m)
		if want >= 0 {
			want ^= 56
		}
	}
}

func TestPassingOfSeveral(t *testing.T) {
	for _, x := range []struct {
		texts, move string
		want        string
	}{
		{"Pd2 pc4 pe4", "d2d4", "d3"},
		{"Pd2 pc4", "d2d4", "d3"},
		{"Pd2 pe4", "d2d4", "d3"},
		{"Pd2 Pc4 Pe4", "d2d4", ""},
		{"Pd2 pc3 pe3 pc5 pe5", "d2d4", ""},
		{"Pd2 nc4 qe4 ke5", "d2d4", ""},
		{"Pd2 pc4 pe4", "d2d3", ""},
		{"Pd3 pc5 pe5", "d3d4", ""},
		{"Pa2 ph4 ph3 ph5 pb4", "a2a4", "a3"},
		{"Pa2 ph4 ph3 ph5", "a2a4", ""},
		{"Ph2 pa4 pa3 pa5", "h2h4", ""},
		{"Rd2 pc4 pe4", "d2d4", ""},
		{"Qd2 pc4 pe4", "d2d4", ""},
		{"Kd2 pc4 pe4", "d2d3", ""},
	} {
		for _, v := range variants {
			want := int8(-1)
			if x.want != "" {
				want = int8(at(x.want))
			}
			checkPassing(t, placed(v, x.texts), move(x.move), want)
		}
	}
	// From its home a pawn of Horde goes two squares, and nothing is passing then; a step behind it something is.
	checkPlainly(t, "Horde", placed(api.Horde, "Pd1 pc3 pe3"), move("d1d3"))
	for text, want := range map[string]int8{"d1d3": -1, "d1d2": -1, "b2b4": 17, "h2h4": -1} {
		p := placed(api.Horde, "Pd1 pc3 pe3 pc2 pe2 Pb2 pc4 Ph2")
		if got, ok := after.Move(p, move(text)); !ok || got.Passing != want {
			t.Errorf("%s: %v, %d, not %d", text, ok, got.Passing, want)
		}
	}
	// A pawn that is dropped there went nowhere.
	behind(t, crazyhouse, "pc4 pe4 @P", "P@d4", "pc4 pe4 Pd4")
}

// ahead are what the clocks may tell ahead of a move, and one more of it.
var ahead = map[int]int{0: 1, 1: 2, 49: 50, 100: 101, 150: 151, api.MaxClock - 2: api.MaxClock - 1, api.MaxClock - 1: api.MaxClock, api.MaxClock: api.MaxClock}

func TestClocks(t *testing.T) {
	for half, nextHalf := range ahead {
		for full, nextFull := range ahead {
			for _, v := range variants {
				for _, x := range []struct {
					texts, move string
					resets      bool
				}{
					{"Nb1 Pa2", "b1c3", false},
					{"Ke1 Pa2", "e1e2", false},
					{"Nb1 rc3", "b1c3", true},
					{"Nb1 pc3", "b1c3", true},
					{"Pa2", "a2a3", true},
					{"Pa2", "a2a4", true},
					{"Pa4 nb5", "a4b5", true},
					{"Pa5 pb5 =b6", "a5b6", true},
					{"Pa5 =b6", "a5b6", true},
				} {
					p := placed(v, x.texts)
					p.Half, p.Full = half, full
					wantHalf := nextHalf
					if x.resets {
						wantHalf = 0
					}
					checkClocks(t, p, move(x.move), wantHalf, full)
					checkClocks(t, turned(p), turnedMove(move(x.move)), wantHalf, nextFull)
				}
			}
		}
	}
}

func checkClocks(t *testing.T, p api.Position, m api.Move, half, full int) {
	t.Helper()
	got, ok := after.Move(p, m)
	if !ok || got.Half != half || got.Full != full {
		t.Errorf("%+v: %v, %d, %d, not %d, %d: %+v", m, ok, got.Half, got.Full, half, full, p)
	}
}

func TestClocksOfOtherMoves(t *testing.T) {
	for half, next := range ahead {
		for full, nextFull := range ahead {
			for _, x := range []struct {
				v           uint8
				texts, move string
				half        int
			}{
				{api.Standard, "Ke1 Rh1 >h1", "e1*h1", next},
				{api.Chess960, "Kb1 Ra1 <a1", "b1*a1", next},
				{api.Standard, "Pa7", "a7a8q", 0},
				{api.Atomic, "Pa7 nb8", "a7b8r", 0},
				{api.Atomic, "Qa1 nb2", "a1b2", 0},
				{api.Crazyhouse, "@P", "P@b2", 0},
				{api.Crazyhouse, "@P @N", "N@b2", next},
				{api.Crazyhouse, "@P @Q", "Q@a8", next},
			} {
				p := placed(x.v, x.texts)
				p.Half, p.Full = half, full
				checkClocks(t, p, move(x.move), x.half, full)
				checkClocks(t, turned(p), turnedMove(move(x.move)), x.half, nextFull)
			}
		}
	}
}

// Clocks that tell more than they may don't go on, and no number goes round.
func TestClocksBeyond(t *testing.T) {
	for _, clock := range []int{api.MaxClock + 1, 1 << 31, 1<<63 - 1} {
		p := placed(api.Standard, "nb8")
		p.Turn, p.Half, p.Full = api.Black, clock, clock
		checkClocks(t, p, move("b8c6"), clock, clock)
	}
}

func TestChecks(t *testing.T) {
	for _, x := range []struct {
		texts, move string
		checks      bool
	}{
		{"Ra1 ke8 Kh1", "a1e1", true},
		{"Ra1 ke8 Kh1", "a1a8", true},
		{"Ra1 ke8 Kh1", "a1a7", false},
		{"Nb5 ke8 Kh1", "b5d6", true},
		{"Pd6 ke8 Kh1", "d6d7", true},
		{"Pe6 ke8 Kh1", "e6e7", false},
		{"Pb7 ke8 Kh1", "b7b8q", true},
		{"Pb7 ke8 Kh1", "b7b8n", false},
		{"Re1 Be4 ke8 Kh1", "e4c6", true},
		{"Re1 Be4 ke8 Kh1", "e4d3", true},
		{"Re1 Be4 pe6 ke8 Kh1", "e4d3", false},
		{"Ke1 Rh1 kf8 >h1", "e1*h1", true},
		{"Ke1 Rh1 kg8 >h1", "e1*h1", false},
		{"Pe5 pd5 =d6 Ba4 ke8 Kh1 nc7", "e5d6", true},
		{"Pe5 pd5 =d6 Ra5 kh5 Kh1", "e5d6", true},
		{"Pe5 pd5 =d6 Ba3 kf8 Kh1", "e5d6", false},
		// Two at once are one check; who gives none may be in check itself.
		{"Re1 Ne4 ke8 Kh1", "e4d6", true},
		{"Nb1 Kh1 rh8 ka8", "b1c3", false},
		{"Kh1 Rg7 rh8 ka8", "g7h7", false},
		{"Kh1 Rg7 rh8 ka8", "g7a7", true},
		{"Ra1 Kh1", "a1a2", false},
		// One that was given ahead of it, and is still on, counts.
		{"Ra8 ke8 Kh1 Pa2", "a2a3", true},
		{"Ra8 ke8 Kh1", "a8d8", true},
	} {
		for _, v := range variants {
			for n, more := range map[uint8]uint8{0: 1, 1: 2, 2: 3, 3: 3} {
				p := placed(v, x.texts)
				if v != api.ThreeCheck && !slices.Contains(after.All(p), move(x.move)) {
					continue
				}
				want := [2]uint8{n, 3 - n}
				p.Checks = want
				if v == api.ThreeCheck && x.checks {
					want[0] = more
				}
				checkChecks(t, x.texts, p, move(x.move), want)
				checkChecks(t, x.texts, turned(p), turnedMove(move(x.move)), [2]uint8{want[1], want[0]})
			}
		}
	}
}

func checkChecks(t *testing.T, texts string, p api.Position, m api.Move, want [2]uint8) {
	t.Helper()
	got, ok := after.Move(p, m)
	if !ok || got.Checks != want {
		t.Errorf("%s, %s, %+v: %v, %v, not %v", rules.Name(p.Variant), texts, m, ok, got.Checks, want)
	}
}

// All Checks there is room for: no more than three are told behind a check, and nothing is changed without one.
func TestManyChecks(t *testing.T) {
	for n := range 256 {
		p := placed(api.ThreeCheck, "Ra1 ke8 Kh1")
		p.Checks = [2]uint8{uint8(n), uint8(n)}
		checkChecks(t, "a check", p, move("a1e1"), [2]uint8{uint8(min(n+1, 3)), uint8(n)})
		checkChecks(t, "no check", p, move("a1b1"), p.Checks)
	}
}

func TestTurns(t *testing.T) {
	for i, p := range append(mixed(900), played(18, 40)...) {
		for _, m := range after.All(p) {
			got, _ := after.Move(p, m)
			if got.Turn != 1-p.Turn || got.Variant != p.Variant {
				t.Errorf("%d: %+v", i, got)
			}
			want := p.Checks
			if p.Variant == api.ThreeCheck && attack.Check(got, got.Turn) {
				want[p.Turn] = min(want[p.Turn]+1, 3)
			}
			if got.Checks != want {
				t.Errorf("%s: %v, not %v", strconv.Itoa(i), got.Checks, want)
			}
		}
	}
}
