package run_test

import (
	"math/rand"
	"slices"
	"testing"

	"thatch/api"
	"thatch/coat"
	"thatch/run"
)

// Areas and coats for the tests, and what can be done with them.

func pt(u, v int) api.Pt { return api.Pt{U: u, V: v} }

func box(u, v, toU, toV int) api.Box { return api.Box{From: pt(u, v), To: pt(toU, toV)} }

func rectangle(u, v, toU, toV int, holes ...api.Box) api.Area {
	return api.Area{Outline: []api.Pt{pt(u, v), pt(toU, v), pt(toU, toV), pt(u, toV)}, Holes: holes}
}

func square(holes ...api.Box) api.Area { return rectangle(0, 0, 40, 40, holes...) }

func bundle(u, width, length, thick int) api.Bundle {
	return api.Bundle{U: u, Width: width, Length: length, Thick: thick}
}

func course(v int, list ...api.Bundle) api.Course { return api.Course{V: v, Bundles: list} }

func courses(list ...api.Course) api.Coat { return api.Coat{Courses: list} }

// example is the coat of the document's examples.
func example() api.Coat {
	return courses(course(0, bundle(0, 40, 40, 100)), course(20, bundle(0, 40, 20, 50)))
}

// wholly lies over all of the square, with its butt below the eave.
func wholly(v, thick int) api.Course { return course(v, bundle(0, 40, 50, thick)) }

func copyArea(a api.Area) api.Area {
	return api.Area{Outline: slices.Clone(a.Outline), Holes: slices.Clone(a.Holes)}
}

func copyCoat(c api.Coat) api.Coat {
	d := api.Coat{Courses: slices.Clone(c.Courses)}
	for i, k := range d.Courses {
		d.Courses[i].Bundles = slices.Clone(k.Bundles)
	}
	return d
}

// placed is a bundle with the line of its course.
type placed struct {
	v int
	b api.Bundle
}

func allBundles(c api.Coat) []placed {
	var list []placed
	for _, k := range c.Courses {
		for _, b := range k.Bundles {
			list = append(list, placed{k.V, b})
		}
	}
	return list
}

// between is a random number from low to high.
func between(rng *rand.Rand, low, high int) int { return low + rng.Intn(high-low+1) }

// randomArea returns an area that may be: a rectangle of which some corners are cut off, or a triangle, at times with holes.
func randomArea(rng *rand.Rand, size int) api.Area {
	a := rectangle(between(rng, 0, size/4), between(rng, 0, size/4), between(rng, size/2, size), between(rng, size/2, size))
	if rng.Intn(6) == 0 {
		i := rng.Intn(4)
		a.Outline = slices.Delete(a.Outline, i, i+1)
	} else {
		a.Outline = cutCorners(rng, a.Outline)
	}
	for range rng.Intn(6) {
		u, v := rng.Intn(size), rng.Intn(size)
		b := copyArea(a)
		b.Holes = append(b.Holes, box(u, v, u+between(rng, 1, size/3), v+between(rng, 1, size/3)))
		if coat.CheckArea(b) == api.OK {
			a = b
		}
	}
	return a
}

// cutCorners goes from some corners of a rectangle by less than half of the way to the two corners beside them.
func cutCorners(rng *rand.Rand, corners []api.Pt) []api.Pt {
	var list []api.Pt
	for i, p := range corners {
		if rng.Intn(2) == 0 {
			list = append(list, p)
			continue
		}
		for _, q := range []api.Pt{corners[(i+3)%4], corners[(i+1)%4]} {
			du, dv := (q.U-p.U)/2, (q.V-p.V)/2
			share := between(rng, 1, 9)
			list = append(list, pt(p.U+du*share/10, p.V+dv*share/10))
		}
	}
	if coat.CheckArea(api.Area{Outline: list}) != api.OK {
		return corners
	}
	return list
}

func randomBundle(rng *rand.Rand, size int) api.Bundle {
	width := between(rng, 1, min(size, api.MaxWidth))
	b := bundle(between(rng, -size/2, size), width, between(rng, 1, min(size, api.MaxLength)), between(rng, 1, 9))
	if rng.Intn(2) == 0 {
		b.Taper = between(rng, 0, (width-1)/2)
	}
	if rng.Intn(2) == 0 {
		most := min(size, api.MaxLean)
		b.Lean = between(rng, -most, most)
	}
	return b
}

// randomCoat returns a coat that may be, over places up to about size. Mostly it begins with bundles over all of them, so that water does not come to a batten at once.
func randomCoat(rng *rand.Rand, size, most int) api.Coat {
	var c api.Coat
	v := between(rng, -size/4, 0)
	if rng.Intn(3) > 0 {
		c = coverAll(rng, size)
		v = between(rng, 0, size/4)
	}
	for range rng.Intn(5) {
		k := api.Course{V: v}
		for range rng.Intn(most + 1) {
			k.Bundles = append(k.Bundles, randomBundle(rng, size))
		}
		c.Courses = append(c.Courses, k)
		v += between(rng, 1, 1+size/3)
	}
	return c
}

// coverAll returns a coat with bundles over all places up to size, which is at most 90: in a course or two, with lines below 0.
func coverAll(rng *rand.Rand, size int) api.Coat {
	var c api.Coat
	for i := range between(rng, 1, 2) {
		v := between(rng, 5*i-9, 5*i-6)
		if rng.Intn(2) == 0 {
			c.Courses = append(c.Courses, course(v, bundle(0, size, size-v, between(rng, 1, 9))))
			continue
		}
		half := between(rng, 1, size-1)
		c.Courses = append(c.Courses, course(v, bundle(0, half, size-v, between(rng, 1, 9)), bundle(half, size-half, size-v, between(rng, 1, 9))))
	}
	return c
}

// anySpot returns a spot with coordinates up to size that is on no side of an area or a bundle: a line through whole points does not go through one that has two such divisors, prime and greater than all lengths.
func anySpot(rng *rand.Rand, size int) api.Spot {
	return api.Spot{U: anyOf(rng, size, 997), V: anyOf(rng, size, 991)}
}

// anyOf returns a number of parts, which is not a whole number.
func anyOf(rng *rand.Rand, size, parts int) api.Ratio {
	return api.Ratio{Num: rng.Intn(size)*parts + between(rng, 1, parts-1), Den: parts}
}

func links(t *testing.T, a api.Area, c api.Coat) []api.Link {
	t.Helper()
	l, e := run.Links(a, c)
	if e != api.OK {
		t.Fatal(a, c, e)
	}
	return l
}

func wet(t *testing.T, a api.Area, c api.Coat, wear int) ([]int, bool) {
	t.Helper()
	l, leaks, e := run.Wet(a, c, wear)
	if e != api.OK {
		t.Fatal(a, c, wear, e)
	}
	return l, leaks
}

func needs(t *testing.T, a api.Area, c api.Coat) []int {
	t.Helper()
	l, e := run.Needs(a, c)
	if e != api.OK {
		t.Fatal(a, c, e)
	}
	return l
}

func leak(t *testing.T, a api.Area, c api.Coat) (int, []int) {
	t.Helper()
	wear, way, e := run.Leak(a, c)
	if e != api.OK {
		t.Fatal(a, c, e)
	}
	return wear, way
}

func proves(t *testing.T, a api.Area, c api.Coat, wear int, l []int) bool {
	t.Helper()
	yes, e := run.Proves(a, c, wear, l)
	if e != api.OK {
		t.Fatal(a, c, wear, l, e)
	}
	return yes
}

func lasts(t *testing.T, a api.Area, c api.Coat, takes ...int) int {
	t.Helper()
	years, e := run.Lasts(a, c, takes)
	if e != api.OK {
		t.Fatal(a, c, takes, e)
	}
	return years
}
