package rules_test

import (
	"math"
	"slices"
	"strings"
	"testing"

	"kibitzer/rules"
)

// row is a line of the chapter's table.
type row struct {
	variant                 uint8
	name                    string
	white, black            bool
	castles, pockets, pawns bool
	promotes                []uint8
}

// rows are the chapter's table, written out.
func rows() []row {
	usual, andKing := []uint8{2, 3, 4, 5}, []uint8{2, 3, 4, 5, 6}
	return []row{
		{0, "standard", true, true, true, false, true, usual},
		{1, "chess960", true, true, true, false, true, usual},
		{2, "crazyhouse", true, true, true, true, true, usual},
		{3, "atomic", true, true, true, false, true, usual},
		{4, "antichess", false, false, false, false, true, andKing},
		{5, "threecheck", true, true, true, false, true, usual},
		{6, "kinghill", true, true, true, false, true, usual},
		{7, "horde", false, true, true, false, true, usual},
		{8, "racing", true, true, false, false, false, nil},
	}
}

// outside are the variants that there aren't.
func outside() []uint8 {
	var l []uint8
	for v := 9; v <= math.MaxUint8; v++ {
		l = append(l, uint8(v))
	}
	return l
}

func TestNameThereAndBack(t *testing.T) {
	for _, r := range rows() {
		if got := rules.Name(r.variant); got != r.name {
			t.Errorf("Name %d: %q, not %q", r.variant, got, r.name)
		}
		if v, ok := rules.ByName(r.name); v != r.variant || !ok {
			t.Errorf("ByName %q: %d, %v, not %d, true", r.name, v, ok, r.variant)
		}
	}
}

func TestNameOfNoVariant(t *testing.T) {
	for _, v := range outside() {
		if got := rules.Name(v); got != "" {
			t.Errorf("Name %d: %q, not the empty text", v, got)
		}
	}
}

// strangers are texts near a variant's name that are no variant's.
func strangers(name string) []string {
	l := []string{strings.ToUpper(name), strings.ToUpper(name[:1]) + name[1:], name + name}
	for i := range name {
		l = append(l, name[:i], name[:i]+name[i+1:], name[:i]+strings.ToUpper(name[i:i+1])+name[i+1:])
		if i > 0 {
			l = append(l, name[i:])
		}
	}
	for b := range 256 {
		l = append(l, name+string([]byte{byte(b)}), string([]byte{byte(b)})+name)
	}
	return l
}

func TestByNameOfNoName(t *testing.T) {
	texts := []string{"", " ", "\x00", "chess", "960", "0", "8", "three-check", "king of the hill", "standard chess960", "ſtandard", "\xff", strings.Repeat("horde", 1000)}
	names := map[string]int{}
	for _, r := range rows() {
		names[r.name]++
		texts = append(texts, strangers(r.name)...)
	}
	for _, s := range texts {
		// The capital of a digit is the digit: chess960 comes back as itself.
		if names[s] > 0 {
			continue
		}
		if v, ok := rules.ByName(s); v != 0 || ok {
			t.Errorf("ByName %q: %d, %v, not 0, false", s, v, ok)
		}
	}
}

func checkBool(t *testing.T, what string, v uint8, got, want bool) {
	t.Helper()
	if got != want {
		t.Errorf("%s %d: %v, not %v", what, v, got, want)
	}
}

func TestTable(t *testing.T) {
	for _, r := range rows() {
		checkBool(t, "Royal White", r.variant, rules.Royal(r.variant, 0), r.white)
		checkBool(t, "Royal Black", r.variant, rules.Royal(r.variant, 1), r.black)
		checkBool(t, "Castles", r.variant, rules.Castles(r.variant), r.castles)
		checkBool(t, "Pockets", r.variant, rules.Pockets(r.variant), r.pockets)
		checkBool(t, "Pawns", r.variant, rules.Pawns(r.variant), r.pawns)
		got := rules.Promotes(r.variant)
		if !slices.Equal(got, r.promotes) {
			t.Errorf("Promotes %d: %v, not %v", r.variant, got, r.promotes)
		}
		if !slices.IsSorted(got) {
			t.Errorf("Promotes %d: %v doesn't rise", r.variant, got)
		}
	}
}

func TestTableOfNoVariant(t *testing.T) {
	for _, v := range outside() {
		for color := range 256 {
			checkBool(t, "Royal", v, rules.Royal(v, uint8(color)), false)
		}
		checkBool(t, "Castles", v, rules.Castles(v), false)
		checkBool(t, "Pockets", v, rules.Pockets(v), false)
		checkBool(t, "Pawns", v, rules.Pawns(v), false)
		if got := rules.Promotes(v); len(got) != 0 {
			t.Errorf("Promotes %d: %v, not nothing", v, got)
		}
	}
}

func TestRoyalOfNoColor(t *testing.T) {
	for _, r := range rows() {
		for color := 2; color <= math.MaxUint8; color++ {
			checkBool(t, "Royal of no color", r.variant, rules.Royal(r.variant, uint8(color)), false)
		}
	}
}

func TestPromotesIsNotShared(t *testing.T) {
	for _, r := range rows() {
		// All of them are spoilt, with the room behind them, ahead of the next call, of whatever variant.
		for _, other := range rows() {
			l := rules.Promotes(other.variant)
			l = l[:cap(l)]
			for i := range l {
				l[i] = 99
			}
		}
		first, second := rules.Promotes(r.variant), rules.Promotes(r.variant)
		for i := range first {
			first[i] = 77
		}
		_ = append(first, 55)
		if !slices.Equal(second, r.promotes) {
			t.Errorf("Promotes %d: %v behind a change of another list, not %v", r.variant, second, r.promotes)
		}
	}
}
