package coat

import (
	"slices"

	"thatch/api"
	"thatch/numbers"
	"thatch/plane"
)

// finestRow is the greatest divisor of the height of a row.
const finestRow = 1000

func checkOutline(outline []api.Pt) api.Errno {
	if len(outline) > api.MaxCorners {
		return api.ErrLimit
	}
	if len(outline) < 3 {
		return api.ErrArg
	}
	return plane.CheckCorners(outline)
}

func checkHole(h api.Box, ahead []api.Box, outline []api.Pt) api.Errno {
	if h.From.U >= h.To.U || h.From.V >= h.To.V {
		return api.ErrArg
	}
	for _, p := range [4]api.Pt{h.From, {U: h.To.U, V: h.From.V}, h.To, {U: h.From.U, V: h.To.V}} {
		if plane.Inside(outline, p) <= 0 {
			return api.ErrScope
		}
	}
	if slices.ContainsFunc(ahead, func(b api.Box) bool { return boxesMeet(b, h) }) {
		return api.ErrClash
	}
	return api.OK
}

// boxesMeet reports whether two boxes have a point in common, their edges included.
func boxesMeet(a, b api.Box) bool {
	return a.From.U <= b.To.U && b.From.U <= a.To.U && a.From.V <= b.To.V && b.From.V <= a.To.V
}

func areBundles(list []api.Bundle) bool {
	return !slices.ContainsFunc(list, func(b api.Bundle) bool { return !isBundle(b) })
}

// isBundle compares Taper with half of Width: twice any number need not fit.
func isBundle(b api.Bundle) bool {
	return numbers.IsFrom(b.U, -api.MaxPlace, api.MaxPlace) &&
		numbers.IsFrom(b.Width, 1, api.MaxWidth) &&
		numbers.IsFrom(b.Length, 1, api.MaxLength) &&
		numbers.IsFrom(b.Lean, -api.MaxLean, api.MaxLean) &&
		numbers.IsFrom(b.Taper, 0, (b.Width-1)/2) &&
		numbers.IsFrom(b.Thick, 1, api.MaxThick)
}

func isSpot(s api.Spot) bool { return isPlace(s.U, api.MaxFiner) && isPlace(s.V, api.MaxFine) }

// isPlace reports whether a quotient is a place of a face, in lowest terms, with a divisor up to finest.
func isPlace(r api.Ratio, finest int) bool {
	return numbers.IsFrom(r.Den, 1, finest) && numbers.IsFrom(r.Num, 0, api.MaxPlace*r.Den) && r == numbers.LowestTerms(r.Num, r.Den)
}
