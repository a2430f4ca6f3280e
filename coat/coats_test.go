package coat_test

import (
	"cmp"
	"math/rand"
	"slices"
	"testing"

	"thatch/api"
	"thatch/coat"
)

// Areas and coats for the tests, and what can be done with them.

func pt(u, v int) api.Pt { return api.Pt{U: u, V: v} }

// outline takes coordinates by twos.
func outline(n ...int) []api.Pt {
	var list []api.Pt
	for i := 0; i < len(n); i += 2 {
		list = append(list, pt(n[i], n[i+1]))
	}
	return list
}

func box(u, v, toU, toV int) api.Box { return api.Box{From: pt(u, v), To: pt(toU, toV)} }

func area(holes []api.Box, n ...int) api.Area { return api.Area{Outline: outline(n...), Holes: holes} }

func rectangle(u, v, toU, toV int, holes ...api.Box) api.Area {
	return area(holes, u, v, toU, v, toU, toV, u, toV)
}

func square(holes ...api.Box) api.Area { return rectangle(0, 0, 40, 40, holes...) }

func ratio(num, den int) api.Ratio { return api.Ratio{Num: num, Den: den} }

func whole(n int) api.Ratio { return ratio(n, 1) }

func at(u, v int) api.Spot { return api.Spot{U: whole(u), V: whole(v)} }

func span(low, high int) api.Span { return api.Span{Low: low, High: high} }

func bundle(u, width, length, lean, taper, thick int) api.Bundle {
	return api.Bundle{U: u, Width: width, Length: length, Lean: lean, Taper: taper, Thick: thick}
}

func course(v int, list ...api.Bundle) api.Course { return api.Course{V: v, Bundles: list} }

func courses(list ...api.Course) api.Coat { return api.Coat{Courses: list} }

// example is the coat of the document's examples.
func example() api.Coat {
	return courses(
		course(0, bundle(-5, 30, 40, 0, 0, 100), bundle(15, 30, 40, 0, 0, 100)),
		course(20, bundle(0, 40, 20, 0, 0, 50)),
	)
}

const exampleText = "course 0\nbundle -5 30 40 0 0 100\nbundle 15 30 40 0 0 100\ncourse 20\nbundle 0 40 20 0 0 50\n"

func copyArea(a api.Area) api.Area {
	return api.Area{Outline: slices.Clone(a.Outline), Holes: slices.Clone(a.Holes)}
}

func copyCoat(c api.Coat) api.Coat {
	d := api.Coat{Courses: slices.Clone(c.Courses)}
	for i, k := range d.Courses {
		d.Courses[i].Bundles = slices.Clone(k.Bundles)
	}
	return d
}

func sameArea(a, b api.Area) bool {
	return slices.Equal(a.Outline, b.Outline) && slices.Equal(a.Holes, b.Holes)
}

// sameCoat is told without the package's own Same.
func sameCoat(a, b api.Coat) bool {
	if len(a.Courses) != len(b.Courses) {
		return false
	}
	for i, k := range a.Courses {
		if k.V != b.Courses[i].V || !slices.Equal(k.Bundles, b.Courses[i].Bundles) {
			return false
		}
	}
	return true
}

// placed is a bundle with the line of its course.
type placed struct {
	v int
	b api.Bundle
}

func allBundles(c api.Coat) []placed {
	var list []placed
	for _, k := range c.Courses {
		for _, b := range k.Bundles {
			list = append(list, placed{k.V, b})
		}
	}
	return list
}

// between is a random number from low to high.
func between(rng *rand.Rand, low, high int) int { return low + rng.Intn(high-low+1) }

// hull returns the corners of the least convex outline with all the points, counter-clockwise.
func hull(points []api.Pt) []api.Pt {
	slices.SortFunc(points, func(a, b api.Pt) int { return cmp.Or(cmp.Compare(a.U, b.U), cmp.Compare(a.V, b.V)) })
	half := func(points []api.Pt) []api.Pt {
		var list []api.Pt
		for _, p := range points {
			for n := len(list); n >= 2 && turn(list[n-2], list[n-1], p) <= 0; n = len(list) {
				list = list[:n-1]
			}
			list = append(list, p)
		}
		return list[:len(list)-1]
	}
	low := half(points)
	slices.Reverse(points)
	return append(low, half(points)...)
}

func turn(a, b, p api.Pt) int { return (b.U-a.U)*(p.V-a.V) - (b.V-a.V)*(p.U-a.U) }

// randomArea returns an area that may be, with coordinates up to size, at times with straight corners and with holes.
func randomArea(t *testing.T, rng *rand.Rand, size int) api.Area {
	t.Helper()
	for {
		var points []api.Pt
		for range between(rng, 3, 8) {
			points = append(points, pt(between(rng, 0, size), between(rng, 0, size)))
		}
		a := api.Area{Outline: hull(points)}
		if len(a.Outline) < 3 || len(a.Outline) > 10 {
			continue
		}
		for i := len(a.Outline) - 1; i >= 0 && rng.Intn(3) == 0; i-- {
			p, q := a.Outline[i], a.Outline[(i+1)%len(a.Outline)]
			if m := pt((p.U+q.U)/2, (p.V+q.V)/2); (p.U+q.U)%2 == 0 && (p.V+q.V)%2 == 0 && !slices.Contains(a.Outline, m) && len(a.Outline) < 12 {
				a.Outline = slices.Insert(a.Outline, i+1, m)
			}
		}
		if e := coat.CheckArea(a); e != api.OK {
			t.Fatal(a, e)
		}
		for range rng.Intn(6) {
			u, v := rng.Intn(size), rng.Intn(size)
			b := copyArea(a)
			b.Holes = append(b.Holes, box(u, v, u+between(rng, 1, size/3), v+between(rng, 1, size/3)))
			if coat.CheckArea(b) == api.OK {
				a = b
			}
		}
		return a
	}
}

// randomCoat returns a coat that may be, over places up to about size.
func randomCoat(rng *rand.Rand, size, most int) api.Coat {
	var c api.Coat
	v := between(rng, -size/2, size/4)
	long := min(size, api.MaxLength)
	for range rng.Intn(5) {
		k := api.Course{V: v}
		for range rng.Intn(most + 1) {
			width := between(rng, 1, min(size, api.MaxWidth))
			b := bundle(between(rng, -size/2, size), width, between(rng, 1, long), 0, 0, between(rng, 1, 4))
			if rng.Intn(2) == 0 {
				b.Taper = between(rng, 0, (width-1)/2)
			}
			if rng.Intn(2) == 0 {
				b.Lean = between(rng, -min(size, api.MaxLean), min(size, api.MaxLean))
			}
			k.Bundles = append(k.Bundles, b)
		}
		c.Courses = append(c.Courses, k)
		v += between(rng, 1, 1+size/3)
	}
	return c
}

// randomPlace returns a quotient in lowest terms from 0 to size.
func randomPlace(rng *rand.Rand, size, finest int) api.Ratio {
	den := between(rng, 1, finest)
	return lowest(rng.Intn(size*den+1), den)
}

func lowest(num, den int) api.Ratio {
	a, b := max(num, -num), den
	for b != 0 {
		a, b = b, a%b
	}
	return ratio(num/a, den/a)
}

func randomSpot(rng *rand.Rand, size, finest int) api.Spot {
	return api.Spot{U: randomPlace(rng, size, finest), V: randomPlace(rng, size, finest)}
}

// randomMake returns a make that may be.
func randomMake(rng *rand.Rand) api.Make {
	width := between(rng, 1, api.MaxWidth)
	return api.Make{Width: width, Length: between(rng, 1, api.MaxLength), Taper: between(rng, 0, (width-1)/2) * rng.Intn(2), Thick: between(rng, 1, api.MaxThick)}
}
