package roof

import (
	"cmp"
	"iter"

	"thatch/api"
)

// sign is -1, 0 or 1. Of a point it tells whether it lies to the right of a line, on it or to the left.
type sign int

func signOf(n int) sign { return sign(cmp.Compare(n, 0)) }

func (s sign) minus() bool { return s < 0 }

func (s sign) zero() bool { return s == 0 }

func (s sign) plus() bool { return s > 0 }

// edge goes from one corner of an outline to the next one.
type edge struct{ from, to api.At }

// edgeAt returns the edge of an outline that begins at a corner.
func edgeAt(corners []api.At, number int) edge {
	return edge{corners[number], corners[(number+1)%len(corners)]}
}

// walk yields the edges of an outline with their numbers.
func walk(corners []api.At) iter.Seq2[int, edge] {
	return func(yield func(int, edge) bool) {
		for i := range corners {
			if !yield(i, edgeAt(corners, i)) {
				return
			}
		}
	}
}

func (e edge) back() edge { return edge{e.to, e.from} }

// side tells on which side of the edge's line a point lies, seen along it.
func (e edge) side(p api.At) sign {
	return signOf((e.to.X-e.from.X)*(p.Y-e.from.Y) - (e.to.Y-e.from.Y)*(p.X-e.from.X))
}

// along tells how far a point on the edge's line is along it: from 0 at its beginning to along(e.to) at its end.
func (e edge) along(p api.At) int {
	return (e.to.X-e.from.X)*(p.X-e.from.X) + (e.to.Y-e.from.Y)*(p.Y-e.from.Y)
}

// overlaps reports whether two edges have more than one point in common.
func (e edge) overlaps(o edge) bool {
	if !e.side(o.from).zero() || !e.side(o.to).zero() {
		return false
	}
	a, b := e.along(o.from), e.along(o.to)
	return max(a, b) > 0 && min(a, b) < e.along(e.to)
}

// isConvex reports whether an outline without equal corners is convex and counterclockwise. An edge that goes back over the one ahead of it needs no look of its own: unless all corners are on one line, some corner is to the right of one of both.
func isConvex(corners []api.At) bool {
	flat := true
	for _, e := range walk(corners) {
		for _, p := range corners {
			s := e.side(p)
			if s.minus() {
				return false
			}
			flat = flat && s.zero()
		}
	}
	return !flat
}

func isOn(corners []api.At, p api.At) bool {
	for _, e := range walk(corners) {
		if e.side(p).minus() {
			return false
		}
	}
	return true
}

// isWithin looks at the limits of the plan first: an opening may have any numbers, and their products need not fit.
func isWithin(corners []api.At, p api.At) bool {
	if !inPlan(p) {
		return false
	}
	for _, e := range walk(corners) {
		if !e.side(p).plus() {
			return false
		}
	}
	return true
}

// isCovered reports whether some point is within two convex outlines. If none is, the line of an edge of one of them parts them.
func isCovered(a, b []api.At) bool { return !isParted(a, b) && !isParted(b, a) }

// isParted reports whether the line of an edge of a has nothing of b to its left.
func isParted(a, b []api.At) bool {
	for _, e := range walk(a) {
		left := false
		for _, p := range b {
			left = left || e.side(p).plus()
		}
		if !left {
			return true
		}
	}
	return false
}

func twiceArea(corners []api.At) int {
	area := 0
	for _, e := range walk(corners) {
		area += e.from.X*e.to.Y - e.to.X*e.from.Y
	}
	return area
}

// openAt returns the number of the opening that a point is in, -1 if there is none.
func openAt(opens []api.Open, p api.At) int {
	for i, o := range opens {
		if o.Low.X < p.X && p.X < o.High.X && o.Low.Y < p.Y && p.Y < o.High.Y {
			return i
		}
	}
	return -1
}
