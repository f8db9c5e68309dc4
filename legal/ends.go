package legal

import (
	"slices"

	"kibitzer/api"
	"kibitzer/board"
)

// end is how a variant's win is told.
type end struct {
	told func(api.Position) api.Result
}

// checksToWin is how many a color must have given.
const checksToWin = 3

// goal is the least square of the rank to which Racing's kings go.
const goal = api.Squares - 8

// everyKind is asked for where a color's pieces of all kinds are meant.
const everyKind uint8 = 0

// ends holds each variant's end at the variant's number.
func ends() [api.Variants]end {
	never := func(api.Position) api.Result { return going() }
	return [...]end{
		api.Standard:   {never},
		api.Chess960:   {never},
		api.Crazyhouse: {never},
		api.Atomic:     {withoutKing},
		api.Antichess:  {withoutMen},
		api.ThreeCheck: {byChecks},
		api.KingHill:   {onHill},
		api.Horde:      {hordeIsGone},
		api.Racing:     {atGoal},
	}
}

// withoutKing is Atomic's win.
func withoutKing(p api.Position) api.Result {
	if !hasKing(p, p.Turn) {
		return won(other(p.Turn), api.ByKing)
	}
	return going()
}

// withoutMen is Antichess's win.
func withoutMen(p api.Position) api.Result {
	return first(p.Turn, api.ByLast, func(color uint8) bool { return !hasMen(p, color) })
}

// byChecks is ThreeCheck's win.
func byChecks(p api.Position) api.Result {
	return first(other(p.Turn), api.ByChecks, func(color uint8) bool { return p.Checks[color] >= checksToWin })
}

// onHill is KingHill's win.
func onHill(p api.Position) api.Result {
	return first(other(p.Turn), api.ByKing, func(color uint8) bool { return isHill(board.Find(p, color, api.King)) })
}

// hordeIsGone is Horde's win.
func hordeIsGone(p api.Position) api.Result {
	if !hasMen(p, api.White) {
		return won(api.Black, api.ByLast)
	}
	return going()
}

// atGoal is Racing's win, or its draw. Where White's king came first, Black's may come behind it with the very next move.
func atGoal(p api.Position) api.Result {
	white, black := isAtGoal(p, api.White), isAtGoal(p, api.Black)
	switch {
	case white && black:
		return api.Result{State: api.Draw, Why: api.ByKing}
	case black:
		return won(api.Black, api.ByKing)
	case white && !blackComes(p):
		return won(api.White, api.ByKing)
	}
	return going()
}

// blackComes: whether it is Black's turn, and a move that would be brings its king to the goal. The move is asked for that, not the position behind it: there a second king of Black's may be the first one.
func blackComes(p api.Position) bool {
	king := board.Find(p, api.Black, api.King)
	return p.Turn == api.Black && slices.ContainsFunc(wouldBe(p), func(m api.Move) bool {
		return int(m.From) == king && m.To >= goal
	})
}

func isAtGoal(p api.Position, color uint8) bool {
	return board.Find(p, color, api.King) >= goal
}

// isHill: whether the square is one of the four in the middle.
func isHill(s int) bool {
	return slices.Contains([]int{27, 28, 35, 36}, s)
}

func hasMen(p api.Position, color uint8) bool {
	return board.Count(p, color, everyKind) > 0
}

// first tells the win of a color of which that holds: where it does of both, of the one that is asked for first.
func first(asked, why uint8, holds func(color uint8) bool) api.Result {
	for _, color := range [...]uint8{asked, other(asked)} {
		if holds(color) {
			return won(color, why)
		}
	}
	return going()
}

func won(color, why uint8) api.Result {
	if color == api.White {
		return api.Result{State: api.WhiteWins, Why: why}
	}
	return api.Result{State: api.BlackWins, Why: why}
}

// going is told where there is no win.
func going() api.Result { return api.Result{State: api.Going, Why: api.ByNothing} }
