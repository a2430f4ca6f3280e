package wear_test

import (
	"cmp"
	"math"
	"math/rand"
	"slices"
	"testing"

	"thatch/api"
	"thatch/wear"
)

// Skins for the tests, and what can be done with them.

func pt(u, v int) api.Pt { return api.Pt{U: u, V: v} }

func span(low, high int) api.Span { return api.Span{Low: low, High: high} }

func box(u, v, toU, toV int) api.Box { return api.Box{From: pt(u, v), To: pt(toU, toV)} }

func mark(u, v, low, high int) api.Mark { return api.Mark{At: pt(u, v), Thick: span(low, high)} }

// outline takes coordinates by twos.
func outline(n ...int) []api.Pt {
	var list []api.Pt
	for i := 0; i < len(n); i += 2 {
		list = append(list, pt(n[i], n[i+1]))
	}
	return list
}

func rectangle(u, v, toU, toV int, holes ...api.Box) api.Area {
	return api.Area{Outline: outline(u, v, toU, v, toU, toV, u, toV), Holes: holes}
}

func of(a api.Area, steep int, thick api.Span, marks ...api.Mark) api.Skin {
	return api.Skin{Area: a, Steep: steep, Thick: thick, Marks: marks}
}

// example is the skin of the document's examples.
func example() api.Skin {
	return of(rectangle(0, 0, 20, 10, box(5, 2, 9, 6)), 2, span(100, 300), mark(0, 0, 180, 200))
}

const exampleText = "skin 2 100 300\ncorner 0 0\ncorner 20 0\ncorner 20 10\ncorner 0 10\nhole 5 2 9 6\nmark 0 0 180 200\n"

// changed is the skin of the examples with something else in it.
func changed(do func(s *api.Skin)) api.Skin {
	s := example()
	do(&s)
	return s
}

// pointless is a skin that may be, all of which is a hole.
func pointless() api.Skin {
	a := api.Area{Outline: outline(1, 1, 3, 1, 1, 3), Holes: []api.Box{box(0, 0, 9, 9)}}
	return of(a, 0, span(5, 9))
}

// marked is a strip with that many marks, side by side.
func marked(count int) api.Skin {
	s := of(rectangle(0, 0, 60, 1), 1, span(0, 100))
	for u := range count {
		s.Marks = append(s.Marks, mark(u, 0, 10, 20))
	}
	return s
}

func copySkin(s api.Skin) api.Skin {
	s.Area = api.Area{Outline: slices.Clone(s.Area.Outline), Holes: slices.Clone(s.Area.Holes)}
	s.Marks = slices.Clone(s.Marks)
	return s
}

func sameSkin(a, b api.Skin) bool {
	return slices.Equal(a.Area.Outline, b.Area.Outline) && slices.Equal(a.Area.Holes, b.Area.Holes) &&
		a.Steep == b.Steep && a.Thick == b.Thick && slices.Equal(a.Marks, b.Marks)
}

// between is a random number from low to high.
func between(rng *rand.Rand, low, high int) int { return low + rng.Intn(high-low+1) }

func randomSpan(rng *rand.Rand, low, high int) api.Span {
	a, b := between(rng, low, high), between(rng, low, high)
	return span(min(a, b), max(a, b))
}

// angle is where a corner is, seen from the middle of an outline.
func angle(list []api.Pt, p api.Pt) float64 {
	var u, v float64
	for _, q := range list {
		u, v = u+float64(q.U), v+float64(q.V)
	}
	n := float64(len(list))
	return math.Atan2(float64(p.V)-v/n, float64(p.U)-u/n)
}

// randomOutline has corners that may be, with coordinates up to size, at times some on a straight side.
func randomOutline(rng *rand.Rand, size int) []api.Pt {
	for {
		var list []api.Pt
		for range between(rng, 3, 6) {
			list = append(list, pt(between(rng, 0, size), between(rng, 0, size)))
		}
		middle := slices.Clone(list)
		slices.SortFunc(list, func(p, q api.Pt) int {
			return cmp.Compare(angle(middle, p), angle(middle, q))
		})
		if wear.Check(of(api.Area{Outline: list}, 0, api.Span{})) == api.OK {
			return list
		}
	}
}

// randomArea may have holes, anywhere and over one another.
func randomArea(rng *rand.Rand, size int) api.Area {
	a := api.Area{Outline: randomOutline(rng, size)}
	if rng.Intn(3) == 0 {
		a = rectangle(0, 0, between(rng, 1, size), between(rng, 1, size))
	}
	for range rng.Intn(4) {
		u, v := between(rng, -2, size), between(rng, -2, size)
		a.Holes = append(a.Holes, box(u, v, u+between(rng, 1, 1+size/2), v+between(rng, 1, 1+size/2)))
	}
	return a
}

// randomSkin is a skin that may be. Its thicknesses are few or many, its marks say much or little.
func randomSkin(rng *rand.Rand, size int) api.Skin {
	most := []int{12, 60, api.MaxCoat}[rng.Intn(3)]
	s := of(randomArea(rng, size), rng.Intn(1+most/4), randomSpan(rng, 0, most))
	s.Steep = min(s.Steep, []int{0, 3, 30, api.MaxSteep}[rng.Intn(4)])
	points := allPoints(s.Area)
	for range rng.Intn(6) {
		if len(points) == 0 {
			break
		}
		m := api.Mark{At: points[rng.Intn(len(points))], Thick: randomSpan(rng, 0, most)}
		t := copySkin(s)
		t.Marks = append(t.Marks, m)
		slices.SortFunc(t.Marks, func(a, b api.Mark) int { return comparePlaces(a.At, b.At) })
		if wear.Check(t) == api.OK {
			s = t
		}
	}
	return s
}

func askBounds(t *testing.T, s api.Skin, p api.Pt) api.Span {
	t.Helper()
	b, e := wear.Bounds(s, p)
	if e != api.OK {
		t.Fatal(s, p, e)
	}
	return b
}

func askProbe(t *testing.T, s api.Skin, p api.Pt, reading, wrong int) api.Skin {
	t.Helper()
	next, e := wear.Probe(s, p, reading, wrong)
	if e != api.OK {
		t.Fatal(s, p, reading, wrong, e)
	}
	return next
}

func askSeason(t *testing.T, s api.Skin, take api.Span, gain int) api.Skin {
	t.Helper()
	next, e := wear.Season(s, take, gain)
	if e != api.OK {
		t.Fatal(s, take, gain, e)
	}
	return next
}

func askKeeps(t *testing.T, s api.Skin, need int) api.Known {
	t.Helper()
	k, e := wear.Keeps(s, need)
	if e != api.OK {
		t.Fatal(s, need, e)
	}
	return k
}
