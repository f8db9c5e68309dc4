package rules

import "kibitzer/api"

const (
	files = 8
	ranks = 8
	none  = -1
)

// numbers is how many first positions chess960 has, usual the number of the one whose pieces stand as in chess.
const (
	numbers = 960
	usual   = 518
)

// knights tells on which two of the five empty files the knights stand, by what is left of a position's number.
var knights = [10][2]int{{0, 1}, {0, 2}, {0, 3}, {0, 4}, {1, 2}, {1, 3}, {1, 4}, {2, 3}, {2, 4}, {3, 4}}

// Start: P7.3.
func Start(v uint8) (api.Position, bool) {
	switch {
	case v >= api.Variants:
		return api.Position{}, false
	case v == api.Chess960:
		return Start960(usual)
	case v == api.Horde:
		return horde(), true
	case v == api.Racing:
		return race(), true
	}
	return both(v, chess()), true
}

// Start960: P7.3.
func Start960(n int) (api.Position, bool) {
	if n < 0 || n >= numbers {
		return api.Position{}, false
	}
	return both(api.Chess960, shuffled(n)), true
}

// bare is the variant's position ahead of any piece.
func bare(v uint8) api.Position {
	return api.Position{Variant: v, Rooks: [2][2]int8{{none, none}, {none, none}}, Passing: none, Full: 1}
}

// both lines up the two colors with the same pieces.
func both(v uint8, pieces [files]uint8) api.Position {
	return army(army(bare(v), api.White, pieces), api.Black, pieces)
}

// army lines up a color's pieces on its home, its pawns ahead of them, and lets it castle where the variant does.
func army(p api.Position, color uint8, pieces [files]uint8) api.Position {
	home, ahead := 0, 1
	if color == api.Black {
		home, ahead = ranks-1, ranks-2
	}
	for file, kind := range pieces {
		p.Board[square(file, home)] = man(color, kind)
		p.Board[square(file, ahead)] = man(color, api.Pawn)
	}
	if Castles(p.Variant) {
		p.Rooks[color] = rookFiles(pieces)
	}
	return p
}

// rookFiles tells the rook towards the h file first, then the one towards the a file.
func rookFiles(pieces [files]uint8) [2]int8 {
	sides := [2]int8{none, none}
	for file, kind := range pieces {
		if kind != api.Rook {
			continue
		}
		sides[0] = int8(file)
		if sides[1] == none {
			sides[1] = int8(file)
		}
	}
	return sides
}

func chess() [files]uint8 {
	return [files]uint8{api.Rook, api.Knight, api.Bishop, api.Queen, api.King, api.Bishop, api.Knight, api.Rook}
}

// shuffled are the pieces of chess960's first position of that number.
func shuffled(n int) [files]uint8 {
	var pieces [files]uint8
	pieces[2*(n%4)+1] = api.Bishop
	n /= 4
	pieces[2*(n%4)] = api.Bishop
	n /= 4
	pieces = placed(pieces, n%6, api.Queen)
	n /= 6
	// The farther knight goes first: the files that are counted up to the nearer one are still the same then.
	pieces = placed(pieces, knights[n][1], api.Knight)
	pieces = placed(pieces, knights[n][0], api.Knight)
	for _, kind := range [3]uint8{api.Rook, api.King, api.Rook} {
		pieces = placed(pieces, 0, kind)
	}
	return pieces
}

// placed puts the kind on one of the empty files, the first of which is counted as 0.
func placed(pieces [files]uint8, count int, kind uint8) [files]uint8 {
	for file, there := range pieces {
		if there != 0 {
			continue
		}
		if count == 0 {
			pieces[file] = kind
			break
		}
		count--
	}
	return pieces
}

func horde() api.Position {
	p := army(bare(api.Horde), api.Black, chess())
	for s := range square(0, 4) {
		p.Board[s] = man(api.White, api.Pawn)
	}
	for _, file := range [4]int{1, 2, 5, 6} {
		p.Board[square(file, 4)] = man(api.White, api.Pawn)
	}
	return p
}

func race() api.Position {
	p := bare(api.Racing)
	halves := [2][files / 2]uint8{
		{api.Knight, api.Bishop, api.Rook, api.Queen},
		{api.Knight, api.Bishop, api.Rook, api.King},
	}
	for rank, half := range halves {
		// White's half goes from the middle to the h file, Black's as far to the a file.
		for away, kind := range half {
			p.Board[square(files/2+away, rank)] = man(api.White, kind)
			p.Board[square(files/2-1-away, rank)] = man(api.Black, kind)
		}
	}
	return p
}

func square(file, rank int) int { return files*rank + file }

func man(color, kind uint8) uint8 { return 8*color + kind }
