package roof_test

import (
	"math/big"
	"slices"

	"thatch/api"
)

// What the chapter says, said again in quotients and in plan, to hold the package against.

func ratio(num, den int) *big.Rat { return big.NewRat(int64(num), int64(den)) }

func height(f api.Face, p api.At) *big.Rat {
	d := map[api.Side]int{api.SiSouth: p.Y - f.Foot, api.SiEast: f.Foot - p.X, api.SiNorth: f.Foot - p.Y, api.SiWest: p.X - f.Foot}[f.Side]
	h := ratio(f.Rise*d, f.Run)
	return h.Add(h, ratio(f.Base, 1))
}

// down is the direction to the side of a face.
func down(f api.Face) api.At {
	return map[api.Side]api.At{api.SiSouth: at(0, -1), api.SiEast: at(1, 0), api.SiNorth: at(0, 1), api.SiWest: at(-1, 0)}[f.Side]
}

func sides(f api.Face) [][2]api.At {
	var list [][2]api.At
	for i, p := range f.Corners {
		list = append(list, [2]api.At{p, f.Corners[(i+1)%len(f.Corners)]})
	}
	return list
}

func sub(p, q api.At) api.At { return at(p.X-q.X, p.Y-q.Y) }

func cross(p, q api.At) int { return p.X*q.Y - p.Y*q.X }

func sameHeights(f, g api.Face, e [2]api.At) bool {
	return height(f, e[0]).Cmp(height(g, e[0])) == 0 && height(f, e[1]).Cmp(height(g, e[1])) == 0
}

// rises is how much a face rises from an edge of it to the point as far away as the edge is long.
func rises(f api.Face, e [2]api.At) *big.Rat {
	d := sub(e[1], e[0])
	inside := at(e[0].X-d.Y, e[0].Y+d.X)
	h := height(f, inside)
	return h.Sub(h, height(f, e[0]))
}

// beside finds the face beside an edge by its ends.
func beside(r api.Roof, face int, e [2]api.At) (with, number int) {
	for i, g := range r.Faces {
		for n, o := range sides(g) {
			if i != face && (o == e || o == [2]api.At{e[1], e[0]}) {
				return i, n
			}
		}
	}
	return -1, -1
}

func wantEdges(r api.Roof) []api.Edge {
	var list []api.Edge
	for i, f := range r.Faces {
		for n, e := range sides(f) {
			with, number := beside(r, i, e)
			list = append(list, api.Edge{Face: i, Number: n, Kind: wantKind(r, f, e, with, number), With: with, At: number})
		}
	}
	return list
}

func wantKind(r api.Roof, f api.Face, e [2]api.At, with, number int) api.EdgeKind {
	level := height(f, e[0]).Cmp(height(f, e[1])) == 0
	a := rises(f, e)
	if with < 0 {
		if !level {
			return api.EgVerge
		}
		if a.Sign() > 0 {
			return api.EgEave
		}
		return api.EgTop
	}
	g := r.Faces[with]
	if !sameHeights(f, g, e) {
		return api.EgStep
	}
	b := rises(g, sides(g)[number])
	if new(big.Rat).Add(a, b).Sign() == 0 {
		return api.EgSeam
	}
	if a.Sign() < 0 && b.Sign() < 0 {
		if level {
			return api.EgRidge
		}
		return api.EgHip
	}
	if a.Sign() > 0 && b.Sign() > 0 {
		return api.EgValley
	}
	return api.EgBreak
}

func wantWays(r api.Roof) []api.Way {
	var ways []api.Way
	for _, w := range wantEdges(r) {
		f := r.Faces[w.Face]
		e := sides(f)[w.Number]
		if cross(sub(e[1], e[0]), down(f)) >= 0 {
			continue
		}
		kind := api.WaOver
		level := height(f, e[0]).Cmp(height(f, e[1])) == 0
		switch {
		case w.With < 0:
			kind = api.WaOff
		case w.Kind == api.EgStep:
			g := r.Faces[w.With]
			if height(f, e[0]).Cmp(height(g, e[0])) < 0 || height(f, e[1]).Cmp(height(g, e[1])) < 0 {
				kind = api.WaStand
			}
		case w.Kind == api.EgValley && level:
			kind = api.WaStand
		case w.Kind == api.EgValley:
			kind = api.WaValley
		}
		ways = append(ways, api.Way{Face: w.Face, Edge: w.Number, Kind: kind})
	}
	return ways
}

// rain follows water from one place to all that it comes to; a place is a face, or an edge that is a valley.
type rain struct {
	r     api.Roof
	edges []api.Edge
	ways  []api.Way
	been  map[api.Edge]bool
}

func wantStands(r api.Roof) []int {
	var list []int
	edges, ways := wantEdges(r), wantWays(r)
	for i := range r.Faces {
		w := rain{r, edges, ways, map[api.Edge]bool{}}
		if w.fall(i) {
			list = append(list, i)
		}
	}
	return list
}

func (w rain) visit(place api.Edge) bool {
	new := !w.been[place]
	w.been[place] = true
	return new
}

func (w rain) fall(face int) bool {
	if !w.visit(api.Edge{Face: face, Number: -1}) {
		return false
	}
	stands := false
	for _, way := range w.ways {
		if way.Face != face {
			continue
		}
		i := slices.IndexFunc(w.edges, func(e api.Edge) bool { return e.Face == face && e.Number == way.Edge })
		switch way.Kind {
		case api.WaStand:
			stands = true
		case api.WaOver:
			stands = w.fall(w.edges[i].With) || stands
		case api.WaValley:
			stands = w.run(w.edges[i]) || stands
		}
	}
	return stands
}

// ends returns the upper and the lower end of a valley, false if it is level.
func (w rain) ends(v api.Edge) (upper, lower api.At, sloping bool) {
	f := w.r.Faces[v.Face]
	e := sides(f)[v.Number]
	switch height(f, e[0]).Cmp(height(f, e[1])) {
	case 1:
		return e[0], e[1], true
	case -1:
		return e[1], e[0], true
	}
	return at(0, 0), at(0, 0), false
}

func (w rain) run(valley api.Edge) bool {
	if !w.visit(valley) {
		return false
	}
	_, end, _ := w.ends(valley)
	for _, e := range w.edges {
		s := sides(w.r.Faces[e.Face])[e.Number]
		if e.With < 0 && (s[0] == end || s[1] == end) {
			return false
		}
	}
	stands, gone := false, false
	for i, f := range w.r.Faces {
		for n, p := range f.Corners {
			out, in := sides(f)[n], sides(f)[(n+len(f.Corners)-1)%len(f.Corners)]
			if p == end && cross(sub(out[1], out[0]), down(f)) >= 0 && cross(sub(in[1], in[0]), down(f)) >= 0 {
				gone = true
				stands = w.fall(i) || stands
			}
		}
	}
	for _, v := range w.edges {
		if upper, _, sloping := w.ends(v); v.Kind == api.EgValley && sloping && upper == end {
			gone = true
			stands = w.run(v) || stands
		}
	}
	return stands || !gone
}

// isHull reports whether a list of different points is convex and counterclockwise, seen from any three of them in order.
func isHull(p []api.At) bool {
	area := 0
	for i := range p {
		for j := range i {
			for k := range j {
				turn := cross(sub(p[j], p[k]), sub(p[i], p[k]))
				if turn < 0 {
					return false
				}
				area += turn
			}
		}
	}
	return area > 0
}

// meet reports whether two convex outlines have an area in common: one is cut off along each edge of the other.
func meet(a, b api.Face) bool {
	type point struct{ x, y *big.Rat }
	var rest []point
	for _, p := range a.Corners {
		rest = append(rest, point{ratio(p.X, 1), ratio(p.Y, 1)})
	}
	for _, e := range sides(b) {
		left := func(p point) *big.Rat {
			u := new(big.Rat).Mul(ratio(e[1].X-e[0].X, 1), new(big.Rat).Sub(p.y, ratio(e[0].Y, 1)))
			v := new(big.Rat).Mul(ratio(e[1].Y-e[0].Y, 1), new(big.Rat).Sub(p.x, ratio(e[0].X, 1)))
			return u.Sub(u, v)
		}
		var kept []point
		for i, p := range rest {
			q := rest[(i+1)%len(rest)]
			l, m := left(p), left(q)
			if l.Sign() >= 0 {
				kept = append(kept, p)
			}
			if l.Sign()*m.Sign() < 0 {
				t := new(big.Rat).Quo(l, new(big.Rat).Sub(l, m))
				x := new(big.Rat).Mul(t, new(big.Rat).Sub(q.x, p.x))
				y := new(big.Rat).Mul(t, new(big.Rat).Sub(q.y, p.y))
				kept = append(kept, point{x.Add(x, p.x), y.Add(y, p.y)})
			}
		}
		rest = kept
	}
	area := new(big.Rat)
	for i, p := range rest {
		q := rest[(i+1)%len(rest)]
		area.Add(area, new(big.Rat).Mul(p.x, q.y))
		area.Sub(area, new(big.Rat).Mul(p.y, q.x))
	}
	return area.Sign() != 0
}

// overlap reports whether two edges on a grid have more than one point in common, by looking at many points of the first one.
func overlap(e, o [2]api.At) bool {
	const parts = 60
	count := 0
	for i := range parts + 1 {
		p := at(e[0].X*(parts-i)+e[1].X*i, e[0].Y*(parts-i)+e[1].Y*i)
		a, b := at(o[0].X*parts, o[0].Y*parts), at(o[1].X*parts, o[1].Y*parts)
		inX := min(a.X, b.X) <= p.X && p.X <= max(a.X, b.X)
		inY := min(a.Y, b.Y) <= p.Y && p.Y <= max(a.Y, b.Y)
		if inX && inY && cross(sub(b, a), sub(p, a)) == 0 {
			count++
		}
	}
	return count > 1
}
