package fire

import (
	"thatch/api"
	"thatch/fault"
	"thatch/numbers"
)

// mostOver is how many ticks fire takes over an edge at most, and how many times as many, so that they are at most MaxBurn.
const mostOver = 100

// factors are how many times as long fire takes over the edges of a roof.
type factors struct{ down, up, across int }

func (f factors) mayBe() bool {
	return numbers.IsFrom(f.down, 1, mostOver) && numbers.IsFrom(f.up, 1, mostOver) && numbers.IsFrom(f.across, 1, mostOver)
}

// over returns the factor of an edge that has a face beside it.
func (f factors) over(kind api.EdgeKind) int {
	switch kind {
	case api.EgValley:
		return f.down
	case api.EgRidge, api.EgHip:
		return f.up
	default:
		return f.across
	}
}

// groundOf returns the ground of a roof with its edges. It panics if there are too many paths.
func groundOf(r api.Roof, edges []api.Edge, over api.Span, f factors) api.Ground {
	var g api.Ground
	for _, x := range r.Faces {
		g.Sites = append(g.Sites, x.Name)
	}
	for _, x := range edges {
		if x.With < 0 {
			continue
		}
		times := f.over(x.Kind)
		g.Paths = append(g.Paths, api.Path{From: x.Face, To: x.With, Time: api.Span{Low: over.Low * times, High: over.High * times}})
	}
	fault.Unless(len(g.Paths) <= api.MaxPaths, api.ErrLimit)
	return g
}
