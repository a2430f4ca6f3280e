package plane

import (
	"math"
	"slices"

	"thatch/api"
	"thatch/numbers"
)

// CheckCorners returns the first error of the corners of an outline, of which there are no more and no fewer than may be, or OK.
func CheckCorners(outline []api.Pt) api.Errno {
	for _, p := range outline {
		if !isPoint(p) {
			return api.ErrArg
		}
	}
	for i, p := range outline {
		if slices.Contains(outline[:i], p) {
			return api.ErrTwice
		}
	}
	if !isConvex(outline) {
		return api.ErrScope
	}
	return api.OK
}

// Inside is above 0 for a point inside of an outline, 0 for one on its sides, and below 0 for any other one. It looks at the limits first: a point may have any numbers, and their products need not fit.
func Inside(outline []api.Pt, p api.Pt) int {
	if !isPoint(p) {
		return -1
	}
	least := math.MaxInt
	for from, to := range Around(outline) {
		least = min(least, leftOf(from, to, p))
	}
	return least
}

func isConvex(outline []api.Pt) bool {
	flat := true
	for from, to := range Around(outline) {
		for _, p := range outline {
			left := leftOf(from, to, p)
			if left < 0 {
				return false
			}
			flat = flat && left == 0
		}
	}
	return !flat
}

// leftOf is above 0 for a point to the left of the line between two others, 0 on it and below 0 to its right.
func leftOf(from, to, p api.Pt) int {
	return (to.U-from.U)*(p.V-from.V) - (to.V-from.V)*(p.U-from.U)
}

func isPoint(p api.Pt) bool {
	return numbers.IsFrom(p.U, 0, api.MaxPlace) && numbers.IsFrom(p.V, 0, api.MaxPlace)
}
