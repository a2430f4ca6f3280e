package run

import (
	"iter"
	"slices"

	"thatch/api"
	"thatch/plane"
)

// side is a side, other than a horizontal one, of an outline, of a hole or of a bundle.
type side interface {
	// meets reports whether what has this side is at that height, and begins or ends there with this side.
	meets(v plane.Quotient) bool
	// pass goes to the right over the side, from a piece of a line to the next one.
	pass(p *piece)
	plane.Side
}

// rim is a side of an outline. It is the first one if it begins at the bottom, where nothing is strictly inside.
type rim struct {
	plane.Line
	first bool
}

// jamb is a side of a hole.
type jamb struct{ plane.Line }

// stem is a side of the bundle with that number.
type stem struct {
	plane.Line
	bundle int
}

func (r rim) meets(v plane.Quotient) bool {
	low, high := r.Ends(v)
	return (low > 0 || low == 0 && !r.first) && high < 0
}

func (j jamb) meets(v plane.Quotient) bool { return isAt(j.Line, v) }

func (s stem) meets(v plane.Quotient) bool { return isAt(s.Line, v) }

func isAt(l plane.Line, v plane.Quotient) bool {
	low, high := l.Ends(v)
	return low >= 0 && high <= 0
}

func (r rim) pass(p *piece) { p.inside = r.Step() > 0 }

func (j jamb) pass(p *piece) { p.inside = j.Step() < 0 }

func (s stem) pass(p *piece) { p.over[s.bundle] = s.Step() > 0 }

// piece is an interval of a horizontal line: whether it is strictly inside of the outline and outside of all holes, and the bundles that lie over it.
type piece struct {
	inside bool
	over   heap
}

// drawing is the sides of an area and of bundles.
type drawing []side

func draw(a api.Area, bundles []placed) drawing {
	var d drawing
	bottom := slices.MinFunc(a.Outline, func(p, q api.Pt) int { return p.V - q.V }).V
	for _, l := range plane.Rims(a.Outline) {
		d = append(d, rim{l, l.Foot() == bottom})
	}
	for _, h := range a.Holes {
		for _, l := range plane.Jambs(h) {
			d = append(d, jamb{l})
		}
	}
	for number, b := range bundles {
		for _, l := range plane.Stems(b.v, b.Bundle) {
			d = append(d, stem{l, number})
		}
	}
	return d
}

// row yields the pieces of the horizontal line at a height between neighbours among the places where it meets sides, from left to right.
func (d drawing) row(v plane.Quotient) iter.Seq[piece] {
	return func(yield func(piece) bool) {
		var p piece
		var last side
		for _, s := range d.meetings(v) {
			if last != nil && last.Path().CompareAt(s.Path(), v) < 0 && !yield(p) {
				return
			}
			s.pass(&p)
			last = s
		}
	}
}

// meetings returns the sides that the line at a height meets, from left to right.
func (d drawing) meetings(v plane.Quotient) []side {
	var list []side
	for _, s := range d {
		if s.meets(v) {
			list = append(list, s)
		}
	}
	slices.SortFunc(list, func(s, o side) int { return s.Path().CompareAt(o.Path(), v) })
	return list
}
