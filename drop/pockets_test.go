package drop_test

import (
	"testing"

	"kibitzer/api"
	"kibitzer/drop"
)

// P15.3

// isPocketed: whether it is a color whose pocket may hold the kind.
func isPocketed(color, kind int) bool { return color <= 1 && kind >= 1 && kind <= 5 }

// checkAdd holds Add against the position that the test wants.
func checkAdd(t *testing.T, p api.Position, color, kind int, want api.Position) {
	t.Helper()
	if got := drop.Add(p, uint8(color), uint8(kind)); got != want {
		t.Errorf("Add of the color %d, the kind %d: %+v, not %+v", color, kind, got, want)
	}
}

// checkTake holds Take against the position, and whether there is one to take, that the test wants.
func checkTake(t *testing.T, p api.Position, color, kind int, want api.Position, there bool) {
	t.Helper()
	if got, ok := drop.Take(p, uint8(color), uint8(kind)); got != want || ok != there {
		t.Errorf("Take of the color %d, the kind %d: %v, %+v, not %v, %+v", color, kind, ok, got, there, want)
	}
}

// eachPocket hands on a filled position with so many of each kind in its pockets, and each color and kind there is a number for; the number behind them is how many of that kind there are in the color's pocket, if it may hold it.
func eachPocket(f func(p api.Position, color, kind, n int)) {
	d := dice(153)
	for _, n := range []uint8{0, 1, 254, 255} {
		for color := range 256 {
			p := d.filled(uint8(color%10), uint8(color%3), color%17, 1)
			for c := range p.Pockets {
				for kind := range p.Pockets[c] {
					p.Pockets[c][kind] = n
				}
			}
			for kind := range 256 {
				f(p, color, kind, int(n))
			}
		}
	}
}

func TestAdd(t *testing.T) {
	eachPocket(func(p api.Position, color, kind, n int) {
		want := p
		if isPocketed(color, kind) && n < 255 {
			want.Pockets[color][kind] = uint8(n + 1)
		}
		checkAdd(t, p, color, kind, want)
	})
}

func TestTake(t *testing.T) {
	eachPocket(func(p api.Position, color, kind, n int) {
		want, there := p, isPocketed(color, kind) && n > 0
		if there {
			want.Pockets[color][kind] = uint8(n - 1)
		}
		checkTake(t, p, color, kind, want, there)
	})
}

// One pocket's place alone counts, whatever the others hold.
func TestPlacesAlone(t *testing.T) {
	full := holding(holding(bare(api.Crazyhouse, 0), 0, 255, held...), 1, 255, held...)
	empty := bare(api.Crazyhouse, 0)
	for color := range 2 {
		for _, kind := range held {
			one := holding(empty, uint8(color), 1, kind)
			checkAdd(t, empty, color, int(kind), one)
			checkTake(t, one, color, int(kind), empty, true)
			less := holding(full, uint8(color), 254, kind)
			checkAdd(t, less, color, int(kind), full)
			checkTake(t, full, color, int(kind), less, true)
			none := holding(full, uint8(color), 0, kind)
			checkTake(t, none, color, int(kind), none, false)
			checkAdd(t, none, color, int(kind), holding(none, uint8(color), 1, kind))
			most := holding(empty, uint8(color), 255, kind)
			checkAdd(t, most, color, int(kind), most)
			checkTake(t, most, color, int(kind), holding(most, uint8(color), 254, kind), true)
		}
	}
}

// A king comes into no pocket, and what stands in a pocket's place of no kind at all is no one's to take.
func TestKingsAndNoKind(t *testing.T) {
	for v := range uint8(12) {
		for color := range 2 {
			for _, n := range counts {
				p := holding(bare(v, uint8(color)), uint8(color), n, 0)
				for _, kind := range []int{0, 6, 7, 8, 9, 14, 255} {
					checkAdd(t, p, color, kind, p)
					checkTake(t, p, color, kind, p, false)
				}
			}
		}
	}
}

// Whoever is to move, in whatever variant: with pockets, without them, or none.
func TestAddAndTakeInEachVariant(t *testing.T) {
	for v := range 256 {
		for _, turn := range []uint8{0, 1, 2, 255} {
			for color := range 2 {
				for _, kind := range held {
					p := holding(bare(uint8(v), turn), uint8(color), 3, kind)
					checkAdd(t, p, color, int(kind), holding(p, uint8(color), 4, kind))
					checkTake(t, p, color, int(kind), holding(p, uint8(color), 2, kind), true)
				}
			}
		}
	}
}

// P15.5

// Where Add leaves the position as it is, because there are 255, Take leads to 254; else back.
func TestTakeBehindAdd(t *testing.T) {
	d := dice(154)
	for n := range 256 {
		for color := range 2 {
			for _, kind := range held {
				p := d.filled(uint8(d.below(10)), uint8(d.below(3)), d.below(17), 1)
				p.Pockets[color][kind] = uint8(n)
				want := p
				if n == 255 {
					want.Pockets[color][kind] = 254
				}
				checkTake(t, drop.Add(p, uint8(color), kind), color, int(kind), want, true)
			}
		}
	}
	eachPocket(func(p api.Position, color, kind, n int) {
		if !isPocketed(color, kind) {
			checkTake(t, drop.Add(p, uint8(color), uint8(kind)), color, kind, p, false)
		}
	})
}

// Where there is one to take, Add leads back; where there is none, there is one then.
func TestAddBehindTake(t *testing.T) {
	eachPocket(func(p api.Position, color, kind, n int) {
		want := p
		if isPocketed(color, kind) && n == 0 {
			want.Pockets[color][kind] = 1
		}
		less, _ := drop.Take(p, uint8(color), uint8(kind))
		checkAdd(t, less, color, kind, want)
	})
}

// Many of all kinds are put in, and taken out in another order.
func TestManyThereAndBack(t *testing.T) {
	d := dice(155)
	for range 200 {
		p := d.filled(api.Crazyhouse, 0, 4, 1)
		var begin [2][6]uint8
		for color := range begin {
			for kind := range begin[color] {
				begin[color][kind] = uint8(d.below(100))
			}
		}
		p.Pockets = begin
		q := p
		var added [][2]uint8
		for range 1 + d.below(100) {
			one := [2]uint8{uint8(d.below(2)), d.oneOf(held)}
			added = append(added, one)
			q = drop.Add(q, one[0], one[1])
		}
		if got, want := drop.Men(q), drop.Men(p)+len(added); got != want {
			t.Errorf("Men: %d, not %d", got, want)
		}
		for len(added) > 0 {
			i := d.below(len(added))
			var ok bool
			if q, ok = drop.Take(q, added[i][0], added[i][1]); !ok {
				t.Errorf("nothing to take of %v: %+v", added[i], q)
			}
			added[i] = added[len(added)-1]
			added = added[:len(added)-1]
		}
		if q != p {
			t.Errorf("%+v, not %+v", q, p)
		}
	}
}
