package wear

import (
	"cmp"
	"iter"

	"thatch/api"
	"thatch/plane"
)

// isPoint reports whether p is one of the points of an area.
func isPoint(a api.Area, p api.Pt) bool {
	if plane.Inside(a.Outline, p) < 0 {
		return false
	}
	for _, h := range a.Holes {
		if h.From.U < p.U && p.U < h.To.U && h.From.V < p.V && p.V < h.To.V {
			return false
		}
	}
	return true
}

// rows yields the points of an area row by row, those that have none left out.
func rows(a api.Area) iter.Seq[[]api.Pt] {
	return func(yield func([]api.Pt) bool) {
		b := boxAround(a.Outline)
		for v := b.From.V; v <= b.To.V; v++ {
			var row []api.Pt
			for u := b.From.U; u <= b.To.U; u++ {
				if p := (api.Pt{U: u, V: v}); isPoint(a, p) {
					row = append(row, p)
				}
			}
			if len(row) > 0 && !yield(row) {
				return
			}
		}
	}
}

// boxAround returns the least box that has all corners of an outline.
func boxAround(outline []api.Pt) api.Box {
	b := api.Box{From: outline[0], To: outline[0]}
	for _, p := range outline {
		b.From = api.Pt{U: min(b.From.U, p.U), V: min(b.From.V, p.V)}
		b.To = api.Pt{U: max(b.To.U, p.U), V: max(b.To.V, p.V)}
	}
	return b
}

func comparePoints(p, q api.Pt) int {
	return cmp.Or(cmp.Compare(p.V, q.V), cmp.Compare(p.U, q.U))
}

func distance(p, q api.Pt) int {
	return max(p.U-q.U, q.U-p.U) + max(p.V-q.V, q.V-p.V)
}
