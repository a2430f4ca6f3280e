package roof

import (
	"slices"

	"thatch/api"
	"thatch/numbers"
	"thatch/words"
)

func checkFace(f api.Face, ahead []api.Face) api.Errno {
	switch {
	case !words.IsName(f.Name):
		return api.ErrName
	case findFace(ahead, f.Name) >= 0:
		return api.ErrTwice
	case !numbers.IsFrom(f.Side, api.SiSouth, api.SiWest):
		return api.ErrArg
	case !numbers.IsFrom(f.Foot, 0, api.MaxPlan) || !numbers.IsFrom(f.Base, 0, api.MaxPlan):
		return api.ErrArg
	case !numbers.IsFrom(f.Rise, 1, api.MaxPitch) || !numbers.IsFrom(f.Run, 1, api.MaxPitch):
		return api.ErrArg
	}
	return checkOutline(f.Corners)
}

func checkOutline(corners []api.At) api.Errno {
	if len(corners) > api.MaxCorners {
		return api.ErrLimit
	}
	if len(corners) < 3 {
		return api.ErrArg
	}
	for _, p := range corners {
		if !inPlan(p) {
			return api.ErrArg
		}
	}
	for i, p := range corners {
		if slices.Contains(corners[:i], p) {
			return api.ErrTwice
		}
	}
	if !isConvex(corners) {
		return api.ErrScope
	}
	return api.OK
}

func checkOpen(o api.Open, ahead []api.Open, faces []api.Face) api.Errno {
	switch {
	case !words.IsName(o.Name):
		return api.ErrName
	case slices.ContainsFunc(ahead, func(a api.Open) bool { return a.Name == o.Name }):
		return api.ErrTwice
	case !numbers.IsFrom(o.Face, 0, len(faces)-1):
		return api.ErrNone
	case o.Low.X >= o.High.X || o.Low.Y >= o.High.Y:
		return api.ErrArg
	}
	outline := faces[o.Face].Corners
	for _, p := range [4]api.At{o.Low, {X: o.High.X, Y: o.Low.Y}, o.High, {X: o.Low.X, Y: o.High.Y}} {
		if !isWithin(outline, p) {
			return api.ErrScope
		}
	}
	if slices.ContainsFunc(ahead, func(a api.Open) bool { return boxesMeet(a, o) }) {
		return api.ErrClash
	}
	return api.OK
}

// boxesMeet reports whether the boxes of two openings have a point in common, their borders included.
func boxesMeet(a, b api.Open) bool {
	return a.Low.X <= b.High.X && b.Low.X <= a.High.X && a.Low.Y <= b.High.Y && b.Low.Y <= a.High.Y
}

// checkTogether finds what is wrong between faces that may be, each by itself.
func checkTogether(faces []api.Face) api.Errno {
	for i, f := range faces {
		for _, g := range faces[:i] {
			if isCovered(f.Corners, g.Corners) {
				return api.ErrClash
			}
		}
	}
	for i, f := range faces {
		for _, g := range faces[:i] {
			if edgesOverlap(f.Corners, g.Corners) {
				return api.ErrScope
			}
		}
	}
	return api.OK
}

// edgesOverlap reports whether an edge of one outline and an edge of the other one have more than one point in common, and not the same two ends.
func edgesOverlap(a, b []api.At) bool {
	for _, e := range walk(a) {
		for _, o := range walk(b) {
			if o != e && o != e.back() && e.overlaps(o) {
				return true
			}
		}
	}
	return false
}

func findFace(faces []api.Face, name string) int {
	return slices.IndexFunc(faces, func(f api.Face) bool { return f.Name == name })
}

func inPlan(p api.At) bool {
	return numbers.IsFrom(p.X, 0, api.MaxPlan) && numbers.IsFrom(p.Y, 0, api.MaxPlan)
}
