package coat_test

import (
	"cmp"
	"math/big"
	"slices"

	"thatch/api"
)

// What the chapter says, found in another way: with half planes instead of sides, with quotients of any size, and around corners instead of between lines.

// corners returns the corners of a bundle, counter-clockwise.
func corners(x placed) []api.Pt {
	b := x.b
	return []api.Pt{
		pt(b.U, x.v),
		pt(b.U+b.Width, x.v),
		pt(b.U+b.Lean+b.Width-b.Taper, x.v+b.Length),
		pt(b.U+b.Lean+b.Taper, x.v+b.Length),
	}
}

func boxCorners(b api.Box) []api.Pt {
	return []api.Pt{b.From, pt(b.To.U, b.From.V), b.To, pt(b.From.U, b.To.V)}
}

func rat(r api.Ratio) *big.Rat { return big.NewRat(int64(r.Num), int64(r.Den)) }

func ratOf(n int) *big.Rat { return big.NewRat(int64(n), 1) }

// lean tells the least sign that a point has at the lines of an outline's sides: 1 inside, 0 on the outline, -1 outside.
func lean(shape []api.Pt, u, v *big.Rat) int {
	least := 1
	for i, from := range shape {
		to := shape[(i+1)%len(shape)]
		a := new(big.Rat).Sub(v, ratOf(from.V))
		b := new(big.Rat).Sub(u, ratOf(from.U))
		a.Mul(a, ratOf(to.U-from.U))
		b.Mul(b, ratOf(to.V-from.V))
		least = min(least, a.Cmp(b))
	}
	return least
}

func wantIn(a api.Area, u, v *big.Rat) bool {
	for _, h := range a.Holes {
		if lean(boxCorners(h), u, v) > 0 {
			return false
		}
	}
	return lean(a.Outline, u, v) >= 0
}

func wantOver(c api.Coat, u, v *big.Rat) []int {
	var list []int
	for i, x := range allBundles(c) {
		if lean(corners(x), u, v) >= 0 {
			list = append(list, i)
		}
	}
	return list
}

func thickOf(c api.Coat, list []int) int {
	thick := 0
	for _, i := range list {
		thick += allBundles(c)[i].b.Thick
	}
	return thick
}

// shapes returns all outlines: of the area, of its holes, of the bundles.
func shapes(a api.Area, c api.Coat) [][]api.Pt {
	list := [][]api.Pt{a.Outline}
	for _, h := range a.Holes {
		list = append(list, boxCorners(h))
	}
	for _, x := range allBundles(c) {
		list = append(list, corners(x))
	}
	return list
}

type segment struct{ from, to api.Pt }

func segments(list [][]api.Pt) []segment {
	var all []segment
	for _, shape := range list {
		for i, from := range shape {
			all = append(all, segment{from, shape[(i+1)%len(shape)]})
		}
	}
	return all
}

// vertex is the point (u/den, v/den), with den above 0.
type vertex struct{ u, v, den int }

// meet returns the point that two segments that are not parallel have in common.
func meet(s, o segment) (vertex, bool) {
	du, dv := s.to.U-s.from.U, s.to.V-s.from.V
	eu, ev := o.to.U-o.from.U, o.to.V-o.from.V
	den := du*ev - dv*eu
	if den == 0 {
		return vertex{}, false
	}
	// The shares of both segments, times den.
	p := (o.from.U-s.from.U)*ev - (o.from.V-s.from.V)*eu
	q := (o.from.U-s.from.U)*dv - (o.from.V-s.from.V)*du
	if den < 0 {
		den, p, q = -den, -p, -q
	}
	if p < 0 || p > den || q < 0 || q > den {
		return vertex{}, false
	}
	return vertex{s.from.U*den + du*p, s.from.V*den + dv*p, den}, true
}

// directions returns a direction between any two neighbours among those of the segments, all around.
func directions(all []segment) []api.Pt {
	var list []api.Pt
	for _, s := range all {
		list = append(list, pt(s.to.U-s.from.U, s.to.V-s.from.V), pt(s.from.U-s.to.U, s.from.V-s.to.V))
	}
	half := func(p api.Pt) int {
		if p.V > 0 || p.V == 0 && p.U > 0 {
			return 0
		}
		return 1
	}
	compare := func(p, q api.Pt) int {
		return cmp.Or(cmp.Compare(half(p), half(q)), cmp.Compare(0, p.U*q.V-p.V*q.U))
	}
	slices.SortFunc(list, compare)
	list = slices.CompactFunc(list, func(p, q api.Pt) bool { return compare(p, q) == 0 })
	var mid []api.Pt
	for i, p := range list {
		q := list[(i+1)%len(list)]
		mid = append(mid, pt(p.U+q.U, p.V+q.V))
	}
	return mid
}

// isNear reports whether the points that are next to a vertex in a direction, which is that of no side, are inside of a shape.
func isNear(shape []api.Pt, x vertex, way api.Pt) bool {
	for i, from := range shape {
		to := shape[(i+1)%len(shape)]
		du, dv := to.U-from.U, to.V-from.V
		here := du*(x.v-from.V*x.den) - dv*(x.u-from.U*x.den)
		if here < 0 || here == 0 && du*way.V-dv*way.U < 0 {
			return false
		}
	}
	return true
}

// wantLeast looks all around each point where sides end or cross: each part of the area between sides has such a corner.
func wantLeast(a api.Area, c api.Coat) (layers, thick int) {
	layers, thick = 1<<30, 1<<30
	all := segments(shapes(a, c))
	ways := directions(all)
	bundles := allBundles(c)
	seen := map[vertex]bool{}
	for i, s := range all {
		for _, o := range all[:i] {
			x, ok := meet(s, o)
			if !ok || seen[x] {
				continue
			}
			seen[x] = true
			for _, way := range ways {
				if !isNear(a.Outline, x, way) || slices.ContainsFunc(a.Holes, func(h api.Box) bool { return isNear(boxCorners(h), x, way) }) {
					continue
				}
				n, k := 0, 0
				for _, b := range bundles {
					if isNear(corners(b), x, way) {
						n, k = n+1, k+b.b.Thick
					}
				}
				layers, thick = min(layers, n), min(thick, k)
			}
		}
	}
	return layers, thick
}

// places returns all U at which a horizontal line has a point in common with a side, in ascending order.
func places(list []segment, v *big.Rat) []*big.Rat {
	var all []*big.Rat
	for _, s := range list {
		low, high := min(s.from.V, s.to.V), max(s.from.V, s.to.V)
		if ratOf(low).Cmp(v) > 0 || ratOf(high).Cmp(v) < 0 {
			continue
		}
		if low == high {
			all = append(all, ratOf(s.from.U), ratOf(s.to.U))
			continue
		}
		u := new(big.Rat).Sub(v, ratOf(s.from.V))
		u.Mul(u, big.NewRat(int64(s.to.U-s.from.U), int64(s.to.V-s.from.V)))
		all = append(all, u.Add(u, ratOf(s.from.U)))
	}
	slices.SortFunc(all, func(x, y *big.Rat) int { return x.Cmp(y) })
	return slices.CompactFunc(all, func(x, y *big.Rat) bool { return x.Cmp(y) == 0 })
}

func ratioOf(r *big.Rat) api.Ratio { return ratio(int(r.Num().Int64()), int(r.Denom().Int64())) }

// wantRow looks at the middle between any two neighbours among the places of a line.
func wantRow(a api.Area, c api.Coat, r api.Ratio) []api.Stretch {
	v := rat(r)
	all := places(segments(shapes(a, c)), v)
	var list []api.Stretch
	for i := 1; i < len(all); i++ {
		mid := new(big.Rat).Add(all[i-1], all[i])
		mid.Mul(mid, big.NewRat(1, 2))
		if !wantIn(a, mid, v) {
			continue
		}
		over := wantOver(c, mid, v)
		s := api.Stretch{From: ratioOf(all[i-1]), To: ratioOf(all[i]), Layers: len(over), Thick: thickOf(c, over)}
		if n := len(list) - 1; n >= 0 && list[n].To == s.From && list[n].Layers == s.Layers && list[n].Thick == s.Thick {
			list[n].To = s.To
		} else {
			list = append(list, s)
		}
	}
	return list
}
