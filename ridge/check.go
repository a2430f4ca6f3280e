package ridge

import (
	"slices"

	"thatch/api"
	"thatch/fault"
	"thatch/numbers"
	"thatch/words"
)

func requireRidge(r api.Ridge) {
	fault.Unless(numbers.IsFrom(r.Length, 0, api.MaxRidge) && isProfile(r.Start) && isProfile(r.End), api.ErrArg)
	fault.Unless(len(r.Pieces) <= api.MaxPieces, api.ErrLimit)
	for i, p := range r.Pieces {
		fault.Unless(words.IsName(p.Name), api.ErrName)
		fault.Unless(findPiece(r.Pieces[:i], p.Name) < 0, api.ErrTwice)
		fault.Unless(numbers.IsFrom(p.Width, 1, api.MaxRidge) && isProfile(p.Left) && isProfile(p.Right), api.ErrArg)
	}
	for i, p := range r.Pieces {
		fault.Unless(isPiece(r, p.Mirror), api.ErrNone)
		fault.Unless(areMirrors(i, p, r.Pieces[p.Mirror]), api.ErrClash)
	}
}

// areMirrors reports whether the Mirror of a piece, which has the number i, has that piece as its own one, and looks like it from behind.
func areMirrors(i int, p, mirror api.Piece) bool {
	return mirror.Mirror == i && mirror.Width == p.Width && mirror.Left == p.Right && mirror.Right == p.Left
}

func isProfile(n int) bool { return numbers.IsFrom(n, 0, api.MaxProfile) }

func isPiece(r api.Ridge, number int) bool { return numbers.IsFrom(number, 0, len(r.Pieces)-1) }

func findPiece(pieces []api.Piece, name string) int {
	return slices.IndexFunc(pieces, func(p api.Piece) bool { return p.Name == name })
}

func requireRods(r api.Rods) {
	fault.Unless(numbers.IsFrom(r.Stock, 1, api.MaxStock) && numbers.IsFrom(r.Kerf, 0, api.MaxStock), api.ErrArg)
	fault.Unless(len(r.Cuts) <= api.MaxCuts, api.ErrLimit)
	many := 0
	for _, c := range r.Cuts {
		fault.Unless(numbers.IsFrom(c.Length, 1, api.MaxStock) && numbers.IsFrom(c.Many, 0, api.MaxMany), api.ErrArg)
		many += c.Many
	}
	fault.Unless(many <= api.MaxMany, api.ErrLimit)
	for _, c := range r.Cuts {
		fault.Unless(c.Length <= r.Stock, api.ErrScope)
	}
}

func areWeights(r api.Rods, weights []int) bool {
	return len(weights) == len(r.Cuts) &&
		!slices.ContainsFunc(weights, func(n int) bool { return !numbers.IsFrom(n, 0, api.MaxHeft) })
}
