package coat

import (
	"slices"

	"thatch/api"
	"thatch/numbers"
)

// laidWrong returns the first rule, but for the one of layers, that is broken.
func laidWrong(m api.Custom, courses []api.Course) api.Breach {
	var below []api.Bundle
	for i, k := range courses {
		if i == 0 && !isAmong(m.Eave, k.V) {
			return api.Breach{Kind: api.BrEave}
		}
		if i > 0 && !isAmong(m.Gauge, k.V-courses[i-1].V) {
			return api.Breach{Kind: api.BrGauge, Course: i}
		}
		for n := range k.Bundles {
			if kind := bundleWrong(m, k.Bundles, n, below); kind != api.BrNone {
				return api.Breach{Kind: kind, Course: i, Bundle: n}
			}
		}
		below = k.Bundles
	}
	return api.Breach{}
}

// bundleWrong returns the first rule that a bundle of a course breaks. The first course has none below it.
func bundleWrong(m api.Custom, course []api.Bundle, number int, below []api.Bundle) api.BreachKind {
	b := course[number]
	switch {
	case !numbers.IsFrom(b.Lean, -m.Lean, m.Lean):
		return api.BrLean
	case number > 0 && !isBeside(m, course[number-1], b):
		return api.BrSide
	case slices.ContainsFunc(below, func(o api.Bundle) bool { return numbers.IsFrom(b.U-o.U, 1-m.Break, m.Break-1) }):
		return api.BrBreak
	}
	return api.BrNone
}

// isBeside reports whether a bundle lies to the right of the one before it, and overlaps it by enough.
func isBeside(m api.Custom, before, b api.Bundle) bool {
	return numbers.IsFrom(b.U, before.U, before.U+before.Width-m.Side)
}

func isAmong(s api.Span, n int) bool { return numbers.IsFrom(n, s.Low, s.High) }
