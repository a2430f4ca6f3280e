package run_test

import (
	"math/rand"
	"slices"
	"testing"

	"thatch/api"
	"thatch/coat"
	"thatch/run"
)

// P5.1 (Links).

const (
	rain   = api.RnRain
	batten = api.RnBatten
	off    = api.RnOff
)

func link(from, to, wear int) api.Link { return api.Link{From: from, To: to, Wear: wear} }

// isLinks wants these to be all links, in this order.
func isLinks(t *testing.T, a api.Area, c api.Coat, want ...api.Link) {
	t.Helper()
	if l := links(t, a, c); !slices.Equal(l, want) {
		t.Errorf("%v %v:\n%v, not\n%v", a, c, l, want)
	}
}

func TestLinksExample(t *testing.T) {
	isLinks(t, square(), example(), link(rain, 0, 0), link(rain, 1, 0), link(0, off, 0), link(0, batten, 100), link(1, 0, 0))
}

func TestLinksOfHeaps(t *testing.T) {
	isLinks(t, square(), api.Coat{}, link(rain, batten, 0))
	isLinks(t, square(), courses(course(0), course(9)), link(rain, batten, 0))
	isLinks(t, square(), courses(wholly(-5, 70)), link(rain, 0, 0), link(0, off, 0), link(0, batten, 70))
	// one over the other, in three courses and in one
	isLinks(t, square(), courses(wholly(-5, 70), wholly(-4, 20), wholly(-3, 30)),
		link(rain, 2, 0), link(0, off, 0), link(0, batten, 70), link(1, off, 0), link(1, 0, 20), link(2, off, 0), link(2, 1, 30))
	all := bundle(0, 40, 50, 7)
	isLinks(t, square(), courses(course(-5, all, all)), link(rain, 1, 0), link(0, off, 0), link(0, batten, 7), link(1, off, 0), link(1, 0, 7))
	// A greater number lies above, wherever the bundles are in their course.
	isLinks(t, square(), courses(course(-5, bundle(30, 40, 50, 1), bundle(0, 40, 50, 2))),
		link(rain, 1, 0), link(0, off, 0), link(0, batten, 1), link(1, off, 0), link(1, batten, 2), link(1, 0, 2))
	// Side by side: over the line between them are both, but over no circle.
	isLinks(t, square(), courses(course(-5, bundle(0, 20, 50, 1), bundle(20, 20, 50, 2))),
		link(rain, 0, 0), link(rain, 1, 0), link(0, off, 0), link(0, batten, 1), link(1, off, 0), link(1, batten, 2))
	// They overlap outside of the area, and beside it.
	isLinks(t, square(), courses(course(-50, bundle(0, 40, 50, 1)), course(-5, bundle(0, 40, 50, 2))),
		link(rain, 1, 0), link(0, off, 0), link(1, off, 0), link(1, batten, 2))
	isLinks(t, square(), courses(course(-5, bundle(0, 40, 50, 1), bundle(40, 40, 50, 2))),
		link(rain, 0, 0), link(0, off, 0), link(0, batten, 1), link(1, off, 0))
	// A hole takes away the only points over which both lie.
	two := courses(course(-5, bundle(0, 20, 50, 1)), course(-4, bundle(0, 40, 50, 2), bundle(12, 6, 20, 3)))
	isLinks(t, square(), two, link(rain, 1, 0), link(rain, 2, 0), link(0, off, 0), link(0, batten, 1),
		link(1, off, 0), link(1, batten, 2), link(1, 0, 2), link(2, off, 0), link(2, 1, 3))
	isLinks(t, rectangle(0, 0, 40, 40, box(12, 1, 18, 16)), courses(course(-5, bundle(0, 40, 50, 1)), course(1, bundle(12, 6, 15, 3))),
		link(rain, 0, 0), link(0, off, 0), link(0, batten, 1), link(1, off, 0))
}

func TestLinksOfButts(t *testing.T) {
	base := wholly(-5, 70)
	// strictly inside, at the eave, at the top, above and below
	isLinks(t, square(), courses(base, course(1, bundle(0, 40, 50, 8))),
		link(rain, 0, 0), link(rain, 1, 0), link(0, off, 0), link(0, batten, 70), link(1, 0, 0))
	isLinks(t, square(), courses(base, course(0, bundle(0, 40, 50, 8))),
		link(rain, 1, 0), link(0, off, 0), link(0, batten, 70), link(1, off, 0), link(1, 0, 8))
	for _, v := range []int{40, 41} {
		isLinks(t, square(), courses(base, course(v, bundle(0, 40, 50, 8))),
			link(rain, 0, 0), link(0, off, 0), link(0, batten, 70), link(1, off, 0))
	}
	// in part beside the area
	isLinks(t, square(), courses(base, course(20, bundle(-5, 50, 50, 8))),
		link(rain, 0, 0), link(rain, 1, 0), link(0, off, 0), link(0, batten, 70), link(1, off, 0), link(1, 0, 0))
	// nothing below it, or below a part of it: it drips onto a batten
	isLinks(t, square(), courses(course(20, bundle(0, 40, 20, 9))),
		link(rain, batten, 0), link(rain, 0, 0), link(0, batten, 0))
	isLinks(t, square(), courses(course(-5, bundle(0, 20, 45, 7), bundle(20, 20, 24, 7)), course(20, bundle(0, 40, 20, 9))),
		link(rain, batten, 0), link(rain, 0, 0), link(rain, 1, 0), link(rain, 2, 0),
		link(0, off, 0), link(0, batten, 7), link(1, off, 0), link(1, batten, 7), link(2, batten, 0), link(2, 0, 0))
	// The top side of a bundle is over the butt that begins there, and so is a butt on the same line.
	isLinks(t, square(), courses(course(-5, bundle(0, 40, 25, 7)), course(20, bundle(0, 40, 20, 9))),
		link(rain, 0, 0), link(rain, 1, 0), link(0, off, 0), link(0, batten, 7), link(1, batten, 9), link(1, 0, 0))
	isLinks(t, square(), courses(base, course(20, bundle(0, 30, 20, 8), bundle(10, 30, 20, 9))),
		link(rain, 0, 0), link(rain, 1, 0), link(rain, 2, 0), link(0, off, 0), link(0, batten, 70),
		link(1, 0, 0), link(2, 0, 0), link(2, 1, 0))
	// A bundle with a greater number is not below, nor is one that has but a point of the butt.
	isLinks(t, square(), courses(course(-5, bundle(0, 20, 25, 7)), course(20, bundle(20, 20, 20, 9), bundle(20, 20, 20, 9))),
		link(rain, batten, 0), link(rain, 0, 0), link(rain, 2, 0), link(0, off, 0), link(0, batten, 7),
		link(1, batten, 0), link(2, 1, 0))
}

// What ends on the line of a butt is below it, and what lies below that is below it once more.
func TestLinksOntoWhatEnds(t *testing.T) {
	c := courses(course(-5, bundle(0, 40, 50, 5)), course(-4, bundle(0, 40, 24, 6)), course(20, bundle(0, 40, 20, 7)))
	isLinks(t, square(), c, link(rain, 1, 0), link(rain, 2, 0), link(0, off, 0), link(0, batten, 5),
		link(1, off, 0), link(1, 0, 6), link(2, 0, 7), link(2, 1, 0))
	// Both end there.
	c = courses(course(0, bundle(0, 40, 20, 5)), course(1, bundle(0, 40, 19, 6)), course(20, bundle(0, 40, 20, 7)))
	isLinks(t, rectangle(0, 10, 40, 30), c, link(rain, 1, 0), link(rain, 2, 0), link(0, off, 0), link(0, batten, 5),
		link(1, off, 0), link(1, 0, 6), link(2, batten, 7), link(2, 1, 0))
}

func TestLinksAtHoles(t *testing.T) {
	c := func(v int) api.Coat { return courses(wholly(-5, 70), course(v, bundle(10, 20, 20, 5))) }
	onto := []api.Link{link(rain, 0, 0), link(rain, 1, 0), link(0, off, 0), link(0, batten, 70), link(1, 0, 0)}
	away := []api.Link{link(rain, 0, 0), link(rain, 1, 0), link(0, off, 0), link(0, batten, 70), link(1, off, 0), link(1, 0, 5)}
	// A butt inside of a hole, on its lower edge or on its upper one drips away; above and below it does not.
	a := square(box(5, 10, 35, 20))
	isLinks(t, a, c(9), onto...)
	isLinks(t, a, c(10), away...)
	isLinks(t, a, c(15), away...)
	isLinks(t, a, c(20), away...)
	isLinks(t, a, c(21), onto...)
	// A hole that ends within the butt leaves a part of it.
	both := []api.Link{link(rain, 0, 0), link(rain, 1, 0), link(0, off, 0), link(0, batten, 70), link(1, off, 0), link(1, 0, 0)}
	for _, h := range []api.Box{box(5, 10, 29, 20), box(11, 10, 35, 20), box(12, 10, 13, 20), box(29, 10, 30, 11)} {
		isLinks(t, square(h), c(10), both...)
	}
	// A hole that ends where the butt does takes all of it; one that only touches it there takes nothing.
	isLinks(t, square(box(10, 10, 30, 20)), c(10), away...)
	isLinks(t, square(box(30, 10, 35, 20), box(5, 10, 10, 20)), c(10), onto...)
}

func TestLinksOfSlantedSides(t *testing.T) {
	// The roof's outline leans: at the height 20 it goes from 10 to 30.
	a := api.Area{Outline: []api.Pt{pt(0, 0), pt(40, 0), pt(20, 40)}}
	base := course(-5, bundle(0, 40, 50, 70))
	for _, x := range []struct {
		u, width int
		want     []api.Link
	}{
		{10, 20, []api.Link{link(1, 0, 0)}},
		{9, 21, []api.Link{link(1, off, 0), link(1, 0, 0)}},
		{10, 21, []api.Link{link(1, off, 0), link(1, 0, 0)}},
		{5, 5, []api.Link{link(1, off, 0)}},
		{30, 5, []api.Link{link(1, off, 0)}},
	} {
		l := links(t, a, courses(base, course(20, bundle(x.u, x.width, 20, 5))))
		of := slices.DeleteFunc(l, func(l api.Link) bool { return l.From != 1 || l.Wear > 0 })
		if !slices.Equal(of, x.want) {
			t.Error(x, of)
		}
	}
	// Two bundles lean apart: between them is a gap as wide as 1 at the top of it.
	gap := courses(course(-5, api.Bundle{U: -20, Width: 40, Length: 45, Thick: 3}, api.Bundle{U: 20, Width: 40, Length: 45, Lean: 1, Thick: 4}))
	isLinks(t, square(), gap, link(rain, batten, 0), link(rain, 0, 0), link(rain, 1, 0), link(0, off, 0), link(0, batten, 3), link(1, off, 0), link(1, batten, 4))
	gap.Courses[0].Bundles[1].Lean = 0
	isLinks(t, square(), gap, link(rain, 0, 0), link(rain, 1, 0), link(0, off, 0), link(0, batten, 3), link(1, off, 0), link(1, batten, 4))
	gap.Courses[0].Bundles[1].Taper = 1
	isLinks(t, square(), gap, link(rain, batten, 0), link(rain, 0, 0), link(rain, 1, 0), link(0, off, 0), link(0, batten, 3), link(1, off, 0), link(1, batten, 4))
}

// Of several links with the same ends the one with the least wear counts.
func TestLeastWearCounts(t *testing.T) {
	// 1 lies on 0 over most of its length, and drips onto it, too.
	isLinks(t, square(), courses(wholly(-5, 70), course(10, bundle(0, 40, 20, 9))),
		link(rain, 0, 0), link(rain, 1, 0), link(0, off, 0), link(0, batten, 70), link(1, 0, 0))
	// 1 drips onto a batten in one place, and lies on battens in another one.
	isLinks(t, square(), courses(course(10, bundle(0, 30, 20, 9))), link(rain, batten, 0), link(rain, 0, 0), link(0, batten, 0))
}

func TestLinksOfRandomCoats(t *testing.T) {
	rng := rand.New(rand.NewSource(72))
	inside, outside, most := 0, 0, 0
	for i := range 1500 {
		size := []int{8, 15, 40, 90}[i%4]
		a, c := randomArea(rng, size), randomCoat(rng, size, 5)
		isLinks(t, a, c, wantLinks(a, c)...)
		if t.Failed() {
			t.FailNow()
		}
		for number := range allBundles(c) {
			for _, p := range wantParts(a, c, number) {
				if p.inside {
					inside++
				} else {
					outside++
				}
				most = max(most, len(p.heap))
			}
		}
	}
	if inside < 3000 || outside < 3000 || most < 9 {
		t.Error(inside, outside, most)
	}
}

// dense returns a coat with so many bundles in each of so many courses, whose sides cross everywhere.
func dense(rng *rand.Rand, courses, each int) api.Coat {
	var c api.Coat
	for i := range courses {
		k := api.Course{V: i - 2}
		for range each {
			b := bundle(rng.Intn(5), 100, between(rng, 77, 100), between(rng, 1, api.MaxThick))
			b.Lean, b.Taper = between(rng, -api.MaxLean, api.MaxLean), 49
			k.Bundles = append(k.Bundles, b)
		}
		c.Courses = append(c.Courses, k)
	}
	return c
}

func TestLinksOfCrossingSides(t *testing.T) {
	rng := rand.New(rand.NewSource(73))
	for range 5 {
		a, c := rectangle(0, 0, 100, 100, box(30, 40, 60, 50)), dense(rng, 6, 3)
		isLinks(t, a, c, wantLinks(a, c)...)
	}
}

// In a coat with as many bundles as there may be each pair of bundles that lie one on the other, over a spot, has its link.
func TestLinksOfManyBundles(t *testing.T) {
	rng := rand.New(rand.NewSource(74))
	a, c := rectangle(0, 0, 400, 400), dense(rng, api.MaxCourses, api.MaxBundles/api.MaxCourses)
	least := map[[2]int]int{}
	for _, l := range links(t, a, c) {
		least[[2]int{l.From, l.To}] = l.Wear
	}
	pairs := 0
	for range 400 {
		heap, e := coat.Over(c, anySpot(rng, 150))
		if e != api.OK {
			t.Fatal(e)
		}
		from, wear := rain, 0
		for _, number := range slices.Backward(heap) {
			if w, ok := least[[2]int{from, number}]; !ok || w > wear {
				t.Fatal("no link from", from, "to", number, "with", wear, heap)
			}
			from, wear = number, allBundles(c)[number].b.Thick
			pairs++
		}
	}
	if pairs < 400 {
		t.Error(pairs)
	}
}

// wrongOnes returns areas and coats that may not be, with the error that comes first.
func wrongOnes() []struct {
	a    api.Area
	c    api.Coat
	want api.Errno
} {
	twice := api.Area{Outline: []api.Pt{pt(0, 0), pt(9, 0), pt(9, 0)}}
	state := courses(course(3), course(3))
	return []struct {
		a    api.Area
		c    api.Coat
		want api.Errno
	}{
		{api.Area{}, example(), api.ErrArg},
		{twice, example(), api.ErrTwice},
		{twice, state, api.ErrTwice},
		{square(box(0, 0, 9, 9)), state, api.ErrScope},
		{square(), state, api.ErrState},
		{square(), courses(course(0, bundle(0, 0, 9, 9))), api.ErrArg},
		{square(), api.Coat{Courses: make([]api.Course, api.MaxCourses+1)}, api.ErrLimit},
	}
}

func TestLinksErrors(t *testing.T) {
	for _, x := range wrongOnes() {
		if l, e := run.Links(x.a, x.c); e != x.want || l != nil {
			t.Error(x, l, e)
		}
	}
}
