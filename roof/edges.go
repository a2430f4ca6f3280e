package roof

import "thatch/api"

// place is where an edge is found again: the number of a face and that of the edge.
type place struct{ face, number int }

// places tells where each edge is. Faces that do not cover each other run through a shared edge in opposite directions, so no edge is there twice, and the face beside an edge is found at its way back.
func places(r api.Roof) map[edge]place {
	found := map[edge]place{}
	for i, f := range r.Faces {
		for n, e := range walk(f.Corners) {
			found[e] = place{i, n}
		}
	}
	return found
}

func edgesOf(r api.Roof) []api.Edge {
	found := places(r)
	var list []api.Edge
	for i, f := range r.Faces {
		for n, e := range walk(f.Corners) {
			one := api.Edge{Face: i, Number: n, With: -1, At: -1}
			if b, ok := found[e.back()]; ok {
				one.With, one.At = b.face, b.number
				one.Kind = kindBetween(f, r.Faces[b.face], e)
			} else {
				one.Kind = kindAlone(f, e)
			}
			list = append(list, one)
		}
	}
	return list
}

// kindAlone is the kind of an edge without a face beside it.
func kindAlone(f api.Face, e edge) api.EdgeKind {
	switch {
	case !isLevel(f, e):
		return api.EgVerge
	case climb(f, e).plus():
		return api.EgEave
	default:
		return api.EgTop
	}
}

// kindBetween is the kind of an edge of f that has g beside it.
func kindBetween(f, g api.Face, e edge) api.EdgeKind {
	if isStep(f, g, e) {
		return api.EgStep
	}
	a, b := climb(f, e), climb(g, e.back())
	sum := signOf(f.Rise*seen(f, e).U*g.Run + g.Rise*seen(g, e.back()).U*f.Run)
	switch {
	case sum.zero():
		return api.EgSeam
	case a.minus() && b.minus() && isLevel(f, e):
		return api.EgRidge
	case a.minus() && b.minus():
		return api.EgHip
	case a.plus() && b.plus():
		return api.EgValley
	default:
		return api.EgBreak
	}
}

func isStep(f, g api.Face, e edge) bool {
	return heightAt(f, e.from) != heightAt(g, e.from) || heightAt(f, e.to) != heightAt(g, e.to)
}

// isBelow reports whether f is below g at an end of their edge.
func isBelow(f, g api.Face, e edge) bool {
	return compare(heightAt(f, e.from), heightAt(g, e.from)).minus() || compare(heightAt(f, e.to), heightAt(g, e.to)).minus()
}
