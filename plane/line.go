// Package plane has what areas and bundles are drawn with: outlines, straight lines that lead up, where they are at a height, and the heights between which they neither end nor cross.
package plane

import (
	"cmp"

	"thatch/api"
)

// Line leads up from a point. Its step is 1 if what it is a side of lies to the right of it, and -1 if that lies to the left.
type Line struct {
	foot      api.Pt
	right, up int
	step      int
}

// lineBetween wants a point that is higher than the other one.
func lineBetween(low, high api.Pt, step int) Line {
	return Line{foot: low, right: high.U - low.U, up: high.V - low.V, step: step}
}

// Path returns the line, so that it is a side, and what has it as a part is one.
func (l Line) Path() Line { return l }

// Step tells where what the line is a side of lies: 1 for the right, -1 for the left.
func (l Line) Step() int { return l.step }

// Foot returns the height of the line's lower end.
func (l Line) Foot() int { return l.foot.V }

// Top returns the height of the line's upper end.
func (l Line) Top() int { return l.foot.V + l.up }

// over returns how far to the right the line is at a height, times the length that it leads up and the divisor of the height.
func (l Line) over(v Quotient) int {
	return l.foot.U*l.up*v.Den + l.right*(v.Num-l.foot.V*v.Den)
}

// At returns where the line is at a height.
func (l Line) At(v Quotient) Quotient { return lowestTerms(l.over(v), l.up*v.Den) }

// CompareAt is below 0 if the line is to the left of another one at a height, 0 if both are at the same place, and above 0 otherwise.
func (l Line) CompareAt(o Line, v Quotient) int { return cmp.Compare(l.over(v)*o.up, o.over(v)*l.up) }

// Ends compares a height with those of the line's lower end and of its upper one.
func (l Line) Ends(v Quotient) (low, high int) {
	return v.Compare(Whole(l.Foot())), v.Compare(Whole(l.Top()))
}

// Inward is above 0 for a point on that side of the line where what it is a side of lies, and 0 on the line.
func (l Line) Inward(u, v Quotient) int { return l.step * u.Compare(l.At(v)) }

// crossing returns the height at which two lines that are not parallel have a point in common, and whether they have one.
func (l Line) crossing(o Line) (Quotient, bool) {
	num := (o.foot.U-l.foot.U)*l.up*o.up + l.right*o.up*l.foot.V - o.right*l.up*o.foot.V
	den := l.right*o.up - o.right*l.up
	if den == 0 {
		return Quotient{}, false
	}
	if den < 0 {
		num, den = -num, -den
	}
	v := lowestTerms(num, den)
	return v, v.Compare(Whole(max(l.Foot(), o.Foot()))) >= 0 && v.Compare(Whole(min(l.Top(), o.Top()))) <= 0
}
