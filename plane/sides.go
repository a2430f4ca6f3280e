package plane

import (
	"iter"

	"thatch/api"
)

// Around yields the sides of an outline: from each corner to the next one.
func Around(outline []api.Pt) iter.Seq2[api.Pt, api.Pt] {
	return func(yield func(api.Pt, api.Pt) bool) {
		for i, from := range outline {
			if !yield(from, outline[(i+1)%len(outline)]) {
				return
			}
		}
	}
}

// Rims returns the sides of an outline, without the horizontal ones. As it goes counter-clockwise, those that lead down are to the left.
func Rims(outline []api.Pt) []Line {
	var list []Line
	for from, to := range Around(outline) {
		switch {
		case from.V > to.V:
			list = append(list, lineBetween(to, from, 1))
		case from.V < to.V:
			list = append(list, lineBetween(from, to, -1))
		}
	}
	return list
}

// Jambs returns the left side and the right side of a hole.
func Jambs(h api.Box) [2]Line {
	return [2]Line{
		lineBetween(h.From, api.Pt{U: h.From.U, V: h.To.V}, 1),
		lineBetween(api.Pt{U: h.To.U, V: h.From.V}, h.To, -1),
	}
}

// Stems returns the left side and the right side of a bundle in a course with the line v.
func Stems(v int, b api.Bundle) [2]Line {
	tip := b.U + b.Lean
	return [2]Line{
		lineBetween(api.Pt{U: b.U, V: v}, api.Pt{U: tip + b.Taper, V: v + b.Length}, 1),
		lineBetween(api.Pt{U: b.U + b.Width, V: v}, api.Pt{U: tip + b.Width - b.Taper, V: v + b.Length}, -1),
	}
}
