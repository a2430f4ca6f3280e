package roof

import (
	"slices"

	"thatch/api"
)

func waysOf(r api.Roof) []api.Way {
	var ways []api.Way
	for _, one := range edgesOf(r) {
		f := r.Faces[one.Face]
		e := edgeAt(f.Corners, one.Number)
		if leadsOut(f, e) {
			ways = append(ways, api.Way{Face: one.Face, Edge: one.Number, Kind: wayAt(r, one, e)})
		}
	}
	return ways
}

// leadsOut reports whether going down at an edge leads out of the face: it does just if the face rises from the edge.
func leadsOut(f api.Face, e edge) bool { return climb(f, e).plus() }

// wayAt tells where water goes that comes to an edge.
func wayAt(r api.Roof, one api.Edge, e edge) api.WayKind {
	f := r.Faces[one.Face]
	switch {
	case one.With < 0:
		return api.WaOff
	case one.Kind == api.EgStep && isBelow(f, r.Faces[one.With], e):
		return api.WaStand
	case one.Kind == api.EgValley && isLevel(f, e):
		return api.WaStand
	case one.Kind == api.EgValley:
		return api.WaValley
	default:
		return api.WaOver
	}
}

// water is what is known of a roof's water before it is followed.
type water struct {
	roof    api.Roof
	ways    []api.Way
	beside  map[edge]place
	valleys []edge          // those that are not level, from the upper end to the lower one
	off     map[api.At]bool // the ends of edges without a face beside them
}

func survey(r api.Roof) water {
	w := water{roof: r, ways: waysOf(r), beside: places(r), off: map[api.At]bool{}}
	for _, way := range w.ways {
		if way.Kind == api.WaValley {
			w.valleys = append(w.valleys, w.valley(way))
		}
	}
	for _, f := range r.Faces {
		for _, e := range walk(f.Corners) {
			if _, ok := w.beside[e.back()]; !ok {
				w.off[e.from], w.off[e.to] = true, true
			}
		}
	}
	return w
}

func (w water) edgeOf(way api.Way) edge {
	return edgeAt(w.roof.Faces[way.Face].Corners, way.Edge)
}

// valley returns the edge of a way along a valley, from the upper end to the lower one.
func (w water) valley(way api.Way) edge {
	e := w.edgeOf(way)
	if seen(w.roof.Faces[way.Face], e).V > 0 {
		return e.back()
	}
	return e
}

// stands reports whether water of a face may come to stand.
func (w water) stands(face int) bool {
	s := stream{water: w, faces: []int{face}}
	flow := s.flow
	for flow() {
	}
	return s.standing
}

// stream is what water reaches: faces, lower ends of valleys, and whether it comes to stand.
type stream struct {
	water
	faces    []int
	ends     []api.At
	standing bool
}

// flow goes one way farther from all that is reached, and reports whether something was added.
func (s *stream) flow() bool {
	before := len(s.faces) + len(s.ends)
	for _, way := range s.ways {
		if slices.Contains(s.faces, way.Face) {
			s.follow(way)
		}
	}
	for _, p := range s.ends {
		s.runOn(p)
	}
	return len(s.faces)+len(s.ends) > before
}

func (s *stream) follow(way api.Way) {
	switch way.Kind {
	case api.WaOver:
		s.reachFace(s.beside[s.edgeOf(way).back()].face)
	case api.WaValley:
		s.reachEnd(s.valley(way).to)
	case api.WaStand:
		s.standing = true
	}
}

// runOn goes on from the lower end of a valley.
func (s *stream) runOn(p api.At) {
	if s.off[p] {
		return
	}
	stuck := true
	for i, f := range s.roof.Faces {
		if comesOnto(f, p) {
			s.reachFace(i)
			stuck = false
		}
	}
	for _, v := range s.valleys {
		if v.from == p {
			s.reachEnd(v.to)
			stuck = false
		}
	}
	if stuck {
		s.standing = true
	}
}

// comesOnto reports whether p is a corner of the face from which going down leads into it, or along an edge of it: over none of the two edges that meet there does it lead out.
func comesOnto(f api.Face, p api.At) bool {
	n := slices.Index(f.Corners, p)
	if n < 0 {
		return false
	}
	ahead := (n + len(f.Corners) - 1) % len(f.Corners)
	return !leadsOut(f, edgeAt(f.Corners, ahead)) && !leadsOut(f, edgeAt(f.Corners, n))
}

func (s *stream) reachFace(face int) {
	if !slices.Contains(s.faces, face) {
		s.faces = append(s.faces, face)
	}
}

func (s *stream) reachEnd(p api.At) {
	if !slices.Contains(s.ends, p) {
		s.ends = append(s.ends, p)
	}
}
