package wear

import (
	"thatch/api"
	"thatch/fault"
	"thatch/numbers"
	"thatch/plane"
)

func requireSkin(s api.Skin) {
	requireArea(s.Area)
	fault.Unless(numbers.IsFrom(s.Steep, 0, api.MaxSteep) && areThicknesses(s.Thick), api.ErrArg)
	fault.Unless(len(s.Marks) <= api.MaxMarks, api.ErrLimit)
	for _, m := range s.Marks {
		fault.Unless(isPoint(s.Area, m.At), api.ErrNone)
		fault.Unless(areThicknesses(m.Thick), api.ErrArg)
	}
	fault.Unless(areInOrder(s.Marks, compareMarks), api.ErrState)
	requireThicknesses(s)
}

func requireArea(a api.Area) {
	fault.Unless(numbers.IsFrom(len(a.Outline), 3, api.MaxCorners), api.ErrArg)
	fault.Raise(plane.CheckCorners(a.Outline))
	fault.Unless(len(a.Holes) <= api.MaxHoles, api.ErrLimit)
	for _, h := range a.Holes {
		fault.Unless(h.From.U < h.To.U && h.From.V < h.To.V, api.ErrArg)
	}
}

// requireThicknesses wants some thicknesses to be as the skin says. There are some if the point of each mark has bounds: the Lows of all points are such thicknesses then.
func requireThicknesses(s api.Skin) {
	for _, m := range s.Marks {
		fault.Unless(bounds(s, m.At) != nothing, api.ErrClash)
	}
}

// requirePoint wants a skin that may be, and one of its points.
func requirePoint(s api.Skin, p api.Pt) {
	requireSkin(s)
	fault.Unless(isPoint(s.Area, p), api.ErrNone)
}

// requireSeason wants a skin that may be, and a season that it may have.
func requireSeason(s api.Skin, take api.Span, gain int) {
	requireSkin(s)
	fault.Unless(areThicknesses(take) && numbers.IsFrom(gain, 0, api.MaxSteep), api.ErrArg)
	fault.Unless(s.Steep+gain <= api.MaxSteep, api.ErrLimit)
}

func isThickness(n int) bool { return numbers.IsFrom(n, 0, api.MaxCoat) }

func areThicknesses(s api.Span) bool { return numbers.IsSpan(s, 0, api.MaxCoat) }

func isClimate(c api.Climate) bool { return numbers.IsSpan(c.Take, 0, api.MaxTaken) }

func isPitch(n int) bool { return numbers.IsFrom(n, 1, api.MaxPitch) }

func isPercent(n int) bool { return numbers.IsFrom(n, 0, 100) }
