package coat

import (
	"slices"

	"thatch/api"
	"thatch/plane"
)

// side is a side, other than a horizontal one, of a bundle, of an outline or of a hole.
type side interface {
	// meets reports whether what has this side is at that height, and begins or ends there with this side.
	meets(v plane.Quotient) bool
	At(v plane.Quotient) plane.Quotient
	plane.Side
}

// stem is a side of a bundle, along its outermost stem.
type stem struct {
	plane.Line
	thick int
}

// rim is a side of an outline. It is the last one if it ends at the top; there it has no other one above it.
type rim struct {
	plane.Line
	last bool
}

// jamb is a side of a hole.
type jamb struct{ plane.Line }

func (s stem) meets(v plane.Quotient) bool {
	low, high := s.Ends(v)
	return low >= 0 && high <= 0
}

func (r rim) meets(v plane.Quotient) bool {
	low, high := r.Ends(v)
	return low >= 0 && (high < 0 || high == 0 && r.last)
}

// meets leaves out both ends: the edges of a hole are in the area.
func (j jamb) meets(v plane.Quotient) bool {
	low, high := j.Ends(v)
	return low > 0 && high < 0
}

func stemsOf(v int, b api.Bundle) [2]stem {
	l := plane.Stems(v, b)
	return [2]stem{{l[0], b.Thick}, {l[1], b.Thick}}
}

func rimsOf(outline []api.Pt) []rim {
	top := farthest(outline).V
	var list []rim
	for _, l := range plane.Rims(outline) {
		list = append(list, rim{l, l.Top() == top})
	}
	return list
}

func jambsOf(h api.Box) [2]jamb {
	l := plane.Jambs(h)
	return [2]jamb{{l[0]}, {l[1]}}
}

// farthest returns the greatest U and the greatest V of an outline.
func farthest(outline []api.Pt) api.Pt {
	var far api.Pt
	for _, p := range outline {
		far = api.Pt{U: max(far.U, p.U), V: max(far.V, p.V)}
	}
	return far
}

func isIn(a api.Area, u, v plane.Quotient) bool {
	there := false
	for _, r := range rimsOf(a.Outline) {
		if r.meets(v) {
			if r.Inward(u, v) < 0 {
				return false
			}
			there = true
		}
	}
	return there && !slices.ContainsFunc(a.Holes, func(h api.Box) bool { return isInHole(h, u, v) })
}

func isInHole(h api.Box, u, v plane.Quotient) bool {
	for _, j := range jambsOf(h) {
		if !j.meets(v) || j.Inward(u, v) <= 0 {
			return false
		}
	}
	return true
}

func over(c api.Coat, u, v plane.Quotient) []int {
	var list []int
	number := 0
	for _, k := range c.Courses {
		for _, b := range k.Bundles {
			if isOver(stemsOf(k.V, b), u, v) {
				list = append(list, number)
			}
			number++
		}
	}
	return list
}

func isOver(stems [2]stem, u, v plane.Quotient) bool {
	for _, s := range stems {
		if !s.meets(v) || s.Inward(u, v) < 0 {
			return false
		}
	}
	return true
}
