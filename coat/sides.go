package coat

import (
	"slices"

	"thatch/api"
)

// line leads up from a point. Its step is 1 if what it is a side of lies to the right of it, and -1 if that lies to the left.
type line struct {
	foot      api.Pt
	right, up int
	step      int
}

// lineBetween wants a point that is higher than the other one.
func lineBetween(low, high api.Pt, step int) line {
	return line{foot: low, right: high.U - low.U, up: high.V - low.V, step: step}
}

func (l line) path() line { return l }

func (l line) top() int { return l.foot.V + l.up }

// at returns where the line is at a height.
func (l line) at(v quotient) quotient {
	return lowestTerms(l.foot.U*l.up*v.Den+l.right*(v.Num-l.foot.V*v.Den), l.up*v.Den)
}

// ends compares a height with those of the line's lower end and of its upper one.
func (l line) ends(v quotient) (low, high int) {
	return v.compare(whole(l.foot.V)), v.compare(whole(l.top()))
}

// crossing returns the height at which two lines that are not parallel have a point in common, and whether they have one.
func (l line) crossing(o line) (quotient, bool) {
	num := (o.foot.U-l.foot.U)*l.up*o.up + l.right*o.up*l.foot.V - o.right*l.up*o.foot.V
	den := l.right*o.up - o.right*l.up
	if den == 0 {
		return quotient{}, false
	}
	if den < 0 {
		num, den = -num, -den
	}
	v := lowestTerms(num, den)
	return v, v.compare(whole(max(l.foot.V, o.foot.V))) >= 0 && v.compare(whole(min(l.top(), o.top()))) <= 0
}

// inward is above 0 for a point on that side of the line where what it is a side of lies, and 0 on the line.
func (l line) inward(u, v quotient) int { return l.step * u.compare(l.at(v)) }

// side is a side, other than a horizontal one, of a bundle, of an outline or of a hole.
type side interface {
	// meets reports whether what has this side is at that height, and begins or ends there with this side.
	meets(v quotient) bool
	at(v quotient) quotient
	path() line
}

// stem is a side of a bundle, along its outermost stem.
type stem struct {
	line
	thick int
}

// rim is a side of an outline. It is the last one if it ends at the top; there it has no other one above it.
type rim struct {
	line
	last bool
}

// jamb is a side of a hole.
type jamb struct{ line }

func (s stem) meets(v quotient) bool {
	low, high := s.ends(v)
	return low >= 0 && high <= 0
}

func (r rim) meets(v quotient) bool {
	low, high := r.ends(v)
	return low >= 0 && (high < 0 || high == 0 && r.last)
}

// meets leaves out both ends: the edges of a hole are in the area.
func (j jamb) meets(v quotient) bool {
	low, high := j.ends(v)
	return low > 0 && high < 0
}

// stemsOf returns the left side and the right side of a bundle in a course with the line v.
func stemsOf(v int, b api.Bundle) [2]stem {
	tip := b.U + b.Lean
	left := lineBetween(api.Pt{U: b.U, V: v}, api.Pt{U: tip + b.Taper, V: v + b.Length}, 1)
	right := lineBetween(api.Pt{U: b.U + b.Width, V: v}, api.Pt{U: tip + b.Width - b.Taper, V: v + b.Length}, -1)
	return [2]stem{{left, b.Thick}, {right, b.Thick}}
}

// rimsOf returns the sides of an outline. As it goes counter-clockwise, those that lead down are to the left.
func rimsOf(outline []api.Pt) []rim {
	top := farthest(outline).V
	var list []rim
	for from, to := range around(outline) {
		switch {
		case from.V > to.V:
			list = append(list, rim{lineBetween(to, from, 1), from.V == top})
		case from.V < to.V:
			list = append(list, rim{lineBetween(from, to, -1), to.V == top})
		}
	}
	return list
}

func jambsOf(h api.Box) [2]jamb {
	left := lineBetween(h.From, api.Pt{U: h.From.U, V: h.To.V}, 1)
	right := lineBetween(api.Pt{U: h.To.U, V: h.From.V}, h.To, -1)
	return [2]jamb{{left}, {right}}
}

// farthest returns the greatest U and the greatest V of an outline.
func farthest(outline []api.Pt) api.Pt {
	var far api.Pt
	for _, p := range outline {
		far = api.Pt{U: max(far.U, p.U), V: max(far.V, p.V)}
	}
	return far
}

func isIn(a api.Area, u, v quotient) bool {
	there := false
	for _, r := range rimsOf(a.Outline) {
		if r.meets(v) {
			if r.inward(u, v) < 0 {
				return false
			}
			there = true
		}
	}
	return there && !slices.ContainsFunc(a.Holes, func(h api.Box) bool { return isInHole(h, u, v) })
}

func isInHole(h api.Box, u, v quotient) bool {
	for _, j := range jambsOf(h) {
		if !j.meets(v) || j.inward(u, v) <= 0 {
			return false
		}
	}
	return true
}

func over(c api.Coat, u, v quotient) []int {
	var list []int
	number := 0
	for _, k := range c.Courses {
		for _, b := range k.Bundles {
			if isOver(stemsOf(k.V, b), u, v) {
				list = append(list, number)
			}
			number++
		}
	}
	return list
}

func isOver(stems [2]stem, u, v quotient) bool {
	for _, s := range stems {
		if !s.meets(v) || s.inward(u, v) < 0 {
			return false
		}
	}
	return true
}
