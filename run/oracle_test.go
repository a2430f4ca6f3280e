package run_test

import (
	"cmp"
	"slices"

	"thatch/api"
)

// What the chapter says, found in another way: heaps by lines that lead up instead of horizontal ones, needs by going over all links until nothing changes, ways by trying all of them.

// fraction is n/d, with d above 0, not in lowest terms.
type fraction struct{ n, d int }

func (f fraction) compare(o fraction) int { return cmp.Compare(f.n*o.d, o.n*f.d) }

func (f fraction) isBetween(low, high fraction) bool {
	return low.compare(f) < 0 && f.compare(high) < 0
}

func middle(f, o fraction) fraction { return fraction{f.n + o.n, f.d + o.d} }

func ascending(list []fraction) []fraction {
	slices.SortFunc(list, fraction.compare)
	return slices.CompactFunc(list, func(f, o fraction) bool { return f.compare(o) == 0 })
}

// shape is the corners of what is convex.
type shape []api.Pt

func shapeOf(x placed) shape {
	b, top := x.b, x.v+x.b.Length
	return shape{pt(b.U, x.v), pt(b.U+b.Width, x.v), pt(b.U+b.Lean+b.Width-b.Taper, top), pt(b.U+b.Lean+b.Taper, top)}
}

func shapeOfBox(b api.Box) shape {
	return shape{b.From, pt(b.To.U, b.From.V), b.To, pt(b.From.U, b.To.V)}
}

// turned has U and V exchanged.
func (s shape) turned() shape {
	var list shape
	for _, p := range s {
		list = append(list, pt(p.V, p.U))
	}
	return list
}

// cut returns where the horizontal line at a height comes into a shape and leaves it, if it has a point of it.
func (s shape) cut(v fraction) (from, to fraction, ok bool) {
	for i, p := range s {
		q := s[(i+1)%len(s)]
		low, high := p.V*v.d-v.n, q.V*v.d-v.n
		at := fraction{p.U, 1}
		if low != 0 {
			if high == 0 || (low < 0) == (high < 0) {
				continue
			}
			at = fraction{p.U*(high-low) - (q.U-p.U)*low, high - low}
			if at.d < 0 {
				at = fraction{-at.n, -at.d}
			}
		}
		if !ok || at.compare(from) < 0 {
			from = at
		}
		if !ok || at.compare(to) > 0 {
			to = at
		}
		ok = true
	}
	return from, to, ok
}

// interval is where a line cuts a shape, or nothing.
type interval struct {
	from, to fraction
	ok       bool
}

func (s shape) interval(v fraction) interval {
	from, to, ok := s.cut(v)
	return interval{from, to, ok}
}

func (i interval) has(u fraction) bool { return i.ok && u.isBetween(i.from, i.to) }

// places returns where the intervals begin and end, in ascending order.
func places(lists ...[]interval) []fraction {
	var all []fraction
	for _, list := range lists {
		for _, i := range list {
			if i.ok {
				all = append(all, i.from, i.to)
			}
		}
	}
	return ascending(all)
}

// drawn is an area and a coat as shapes.
type drawn struct {
	outline        shape
	holes, bundles []shape
}

func drawnOf(a api.Area, c api.Coat) drawn {
	d := drawn{outline: a.Outline}
	for _, h := range a.Holes {
		d.holes = append(d.holes, shapeOfBox(h))
	}
	for _, x := range allBundles(c) {
		d.bundles = append(d.bundles, shapeOf(x))
	}
	return d
}

func (d drawn) turned() drawn {
	t := drawn{outline: d.outline.turned()}
	for _, s := range d.holes {
		t.holes = append(t.holes, s.turned())
	}
	for _, s := range d.bundles {
		t.bundles = append(t.bundles, s.turned())
	}
	return t
}

func (d drawn) all() []shape { return append(append([]shape{d.outline}, d.holes...), d.bundles...) }

// bends returns all V of corners, and of points at which the lines of two sides cross, in ascending order.
func (d drawn) bends() []fraction {
	type segment struct{ p, q api.Pt }
	var sides []segment
	var list []fraction
	for _, s := range d.all() {
		for i, p := range s {
			sides = append(sides, segment{p, s[(i+1)%len(s)]})
			list = append(list, fraction{p.V, 1})
		}
	}
	for i, s := range sides {
		for _, o := range sides[:i] {
			du, dv, eu, ev := s.q.U-s.p.U, s.q.V-s.p.V, o.q.U-o.p.U, o.q.V-o.p.V
			den := du*ev - dv*eu
			if den == 0 {
				continue
			}
			num := s.p.V*den + dv*((o.p.U-s.p.U)*ev-(o.p.V-s.p.V)*eu)
			if den < 0 {
				num, den = -num, -den
			}
			list = append(list, fraction{num, den})
		}
	}
	return ascending(list)
}

func intervals(list []shape, v fraction) []interval {
	var cuts []interval
	for _, s := range list {
		cuts = append(cuts, s.interval(v))
	}
	return cuts
}

func anyHas(list []interval, u fraction) bool {
	return slices.ContainsFunc(list, func(i interval) bool { return i.has(u) })
}

// over returns the numbers of the intervals that a place is in, from the greatest one down.
func over(list []interval, u fraction) []int {
	var heap []int
	for number, i := range slices.Backward(list) {
		if i.has(u) {
			heap = append(heap, number)
		}
	}
	return heap
}

// wantHeaps returns all heaps of an area, some of them more than once: along lines that lead up, one between any two bends.
func wantHeaps(a api.Area, c api.Coat) [][]int {
	d := drawnOf(a, c).turned()
	var list [][]int
	bends := d.bends()
	for i := 1; i < len(bends); i++ {
		u := middle(bends[i-1], bends[i])
		outline, holes, bundles := d.outline.interval(u), intervals(d.holes, u), intervals(d.bundles, u)
		ends := places([]interval{outline}, holes, bundles)
		for k := 1; k < len(ends); k++ {
			if v := middle(ends[k-1], ends[k]); outline.has(v) && !anyHas(holes, v) {
				list = append(list, over(bundles, v))
			}
		}
	}
	return list
}

// part is a part of a butt.
type part struct {
	inside bool
	heap   []int
}

func wantParts(a api.Area, c api.Coat, number int) []part {
	d := drawnOf(a, c)
	height := allBundles(c)[number].v
	v := fraction{height, 1}
	outline, holes, bundles := d.outline.interval(v), intervals(d.holes, v), intervals(d.bundles[:number+1], v)
	low, high := a.Outline[0].V, a.Outline[0].V
	for _, p := range a.Outline {
		low, high = min(low, p.V), max(high, p.V)
	}
	var list []part
	ends := places([]interval{outline}, holes, bundles)
	for k := 1; k < len(ends); k++ {
		u := middle(ends[k-1], ends[k])
		if !bundles[number].has(u) {
			continue
		}
		inside := low < height && height < high && outline.has(u) && !anyHas(holes, u)
		list = append(list, part{inside, over(bundles[:number], u)})
	}
	return list
}

// wantLinks goes down each heap.
func wantLinks(a api.Area, c api.Coat) []api.Link {
	bundles := allBundles(c)
	var list []api.Link
	down := func(from int, heap []int) {
		wear := 0
		for _, number := range heap {
			list = append(list, api.Link{From: from, To: number, Wear: wear})
			from, wear = number, bundles[number].b.Thick
		}
		list = append(list, api.Link{From: from, To: api.RnBatten, Wear: wear})
	}
	for _, heap := range wantHeaps(a, c) {
		down(api.RnRain, heap)
	}
	for number := range bundles {
		for _, p := range wantParts(a, c, number) {
			if p.inside {
				down(number, p.heap)
			} else {
				list = append(list, api.Link{From: number, To: api.RnOff})
			}
		}
	}
	slices.SortFunc(list, func(a, b api.Link) int {
		return cmp.Or(cmp.Compare(a.From, b.From), cmp.Compare(a.To, b.To), cmp.Compare(a.Wear, b.Wear))
	})
	return slices.CompactFunc(list, func(a, b api.Link) bool { return a.From == b.From && a.To == b.To })
}

// wantNeeds goes over all links until no need changes. The need of the battens comes last.
func wantNeeds(list []api.Link, count int) []int {
	all := slices.Repeat([]int{-1}, count+1)
	for changed := true; changed; {
		changed = false
		for _, l := range list {
			m := l.Wear
			if l.From >= 0 {
				if all[l.From] < 0 {
					continue
				}
				m = max(m, all[l.From])
			}
			to := l.To
			if to == api.RnBatten {
				to = count
			}
			if to >= 0 && (all[to] < 0 || m < all[to]) {
				all[to], changed = m, true
			}
		}
	}
	return all
}

// wantWay tries all ways with one bundle more, in ascending order, until one of them comes to a batten.
func wantWay(list []api.Link, wear int) []int {
	var try func(way []int, from, more int) ([]int, bool)
	try = func(way []int, from, more int) ([]int, bool) {
		for _, l := range list {
			if l.From != from || l.Wear > wear || l.To == api.RnOff || (l.To == api.RnBatten) != (more == 0) {
				continue
			}
			if more == 0 {
				return way, true
			}
			if slices.Contains(way, l.To) {
				continue
			}
			if found, ok := try(append(slices.Clip(way), l.To), l.To, more-1); ok {
				return found, true
			}
		}
		return nil, false
	}
	for more := 0; ; more++ {
		if way, ok := try(nil, api.RnRain, more); ok {
			return way
		}
	}
}
