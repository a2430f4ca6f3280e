package coat_test

import (
	"math"
	"math/rand"
	"slices"
	"testing"

	"thatch/api"
	"thatch/coat"
)

// P3.1 (areas and coats).

func checkArea(t *testing.T, a api.Area, want api.Errno) {
	t.Helper()
	if e := coat.CheckArea(a); e != want {
		t.Errorf("%v: %d, not %d", a, e, want)
	}
}

// twelve is an outline with as many corners as there may be, some of them straight.
func twelve() []api.Pt {
	return outline(0, 0, 10, 0, 20, 0, 30, 0, 30, 10, 30, 20, 30, 30, 20, 30, 10, 30, 0, 30, 0, 20, 0, 10)
}

func TestCheckOutline(t *testing.T) {
	for _, o := range [][]api.Pt{
		outline(0, 0, 1, 0, 0, 1),
		outline(0, 0, 400, 0, 400, 400, 0, 400),
		outline(0, 0, 20, 0, 40, 0, 40, 40),
		outline(7, 0, 14, 7, 7, 14, 0, 7),
		outline(0, 0, 400, 399, 399, 399),
		twelve(),
	} {
		for i := range o {
			checkArea(t, api.Area{Outline: append(slices.Clone(o[i:]), o[:i]...)}, api.OK)
		}
		back := slices.Clone(o)
		slices.Reverse(back)
		checkArea(t, api.Area{Outline: back}, api.ErrScope)
	}
	for _, c := range []struct {
		o    []api.Pt
		want api.Errno
	}{
		{nil, api.ErrArg},
		{outline(0, 0), api.ErrArg},
		{outline(0, 0, 9, 0), api.ErrArg},
		{outline(0, 0, 401, 0), api.ErrArg},
		{make([]api.Pt, 13), api.ErrLimit},
		{append(twelve(), pt(0, 5)), api.ErrLimit},
		{append(twelve(), pt(-1, 5)), api.ErrLimit},
		{outline(0, 0, 401, 0, 0, 9), api.ErrArg},
		{outline(0, 0, 9, 0, 0, 401), api.ErrArg},
		{outline(-1, 0, 9, 0, 0, 9), api.ErrArg},
		{outline(0, -1, 9, 0, 0, 9), api.ErrArg},
		{outline(0, 0, 0, 0, 9, -1), api.ErrArg},
		{outline(0, 0, 9, 0, math.MaxInt, math.MaxInt), api.ErrArg},
		{outline(0, 0, 9, 0, math.MinInt, 9), api.ErrArg},
		{outline(0, 0, 9, 0, 0, 0), api.ErrTwice},
		{outline(0, 0, 9, 0, 9, 9, 9, 0), api.ErrTwice},
		{outline(9, 9, 9, 9, 9, 9), api.ErrTwice},
		{outline(0, 0, 9, 0, 20, 0), api.ErrScope},
		{outline(0, 0, 20, 0, 9, 0), api.ErrScope},
		{outline(3, 1, 6, 2, 9, 3, 12, 4), api.ErrScope},
		{outline(0, 0, 40, 0, 10, 10, 0, 40), api.ErrScope},
		{outline(0, 0, 40, 40, 40, 0, 0, 40), api.ErrScope},
		// straight corners in the wrong order
		{outline(0, 0, 20, 0, 10, 0, 40, 0, 40, 40), api.ErrScope},
		{outline(0, 0, 40, 0, 20, 0, 40, 40), api.ErrScope},
		{outline(10, 0, 0, 0, 40, 0, 40, 40), api.ErrScope},
		// a star goes around twice
		{outline(0, 10, 40, 10, 5, 40, 20, 0, 35, 40), api.ErrScope},
	} {
		checkArea(t, api.Area{Outline: c.o}, c.want)
		checkArea(t, api.Area{Outline: c.o, Holes: make([]api.Box, 7)}, c.want)
	}
}

func TestCheckHoles(t *testing.T) {
	small := func(i int) api.Box { return box(1+3*i, 1, 3+3*i, 3) }
	six := []api.Box{small(0), small(1), small(2), small(3), small(4), small(5)}
	for _, holes := range [][]api.Box{
		{box(1, 1, 39, 39)},
		{box(5, 5, 9, 9), box(10, 5, 12, 9)},
		{box(5, 5, 9, 9), box(5, 10, 9, 12)},
		{box(10, 10, 12, 12), box(7, 7, 9, 9)},
		six,
	} {
		checkArea(t, square(holes...), api.OK)
	}
	far := math.MaxInt
	for _, c := range []struct {
		holes []api.Box
		want  api.Errno
	}{
		{append(slices.Clone(six), small(6)), api.ErrLimit},
		{make([]api.Box, 7), api.ErrLimit},
		{[]api.Box{box(5, 5, 5, 9)}, api.ErrArg},
		{[]api.Box{box(5, 5, 9, 5)}, api.ErrArg},
		{[]api.Box{box(9, 5, 5, 9)}, api.ErrArg},
		{[]api.Box{box(5, 9, 9, 5)}, api.ErrArg},
		{[]api.Box{box(50, 5, 45, 9)}, api.ErrArg},
		{[]api.Box{{}}, api.ErrArg},
		{[]api.Box{box(0, 5, 9, 9)}, api.ErrScope},
		{[]api.Box{box(5, 0, 9, 9)}, api.ErrScope},
		{[]api.Box{box(5, 5, 40, 9)}, api.ErrScope},
		{[]api.Box{box(5, 5, 9, 40)}, api.ErrScope},
		{[]api.Box{box(50, 5, 55, 9)}, api.ErrScope},
		{[]api.Box{box(-far, -far, far, far)}, api.ErrScope},
		{[]api.Box{box(5, 5, far, far)}, api.ErrScope},
		{[]api.Box{box(-far-1, 5, 9, 9)}, api.ErrScope},
		{[]api.Box{box(5, 5, 9, 9), box(5, 5, 9, 9)}, api.ErrClash},
		{[]api.Box{box(5, 5, 9, 9), box(9, 5, 12, 9)}, api.ErrClash},
		{[]api.Box{box(9, 5, 12, 9), box(5, 5, 9, 9)}, api.ErrClash},
		{[]api.Box{box(5, 5, 9, 9), box(5, 9, 9, 12)}, api.ErrClash},
		{[]api.Box{box(5, 9, 9, 12), box(5, 5, 9, 9)}, api.ErrClash},
		{[]api.Box{box(5, 5, 9, 9), box(9, 9, 12, 12)}, api.ErrClash},
		{[]api.Box{box(5, 5, 20, 20), box(8, 8, 9, 9)}, api.ErrClash},
		{[]api.Box{box(8, 8, 9, 9), box(5, 5, 20, 20)}, api.ErrClash},
		{[]api.Box{box(10, 5, 12, 30), box(5, 10, 30, 12)}, api.ErrClash},
		{[]api.Box{box(1, 1, 2, 2), box(5, 5, 9, 9), box(8, 8, 12, 12)}, api.ErrClash},
		// hole by hole
		{[]api.Box{box(5, 5, 9, 9), box(5, 5, 9, 9), box(9, 5, 5, 9)}, api.ErrClash},
		{[]api.Box{box(0, 5, 9, 9), box(9, 5, 5, 9)}, api.ErrScope},
		{[]api.Box{box(5, 5, 9, 9), box(9, 9, 5, 5)}, api.ErrArg},
		{[]api.Box{box(5, 5, 9, 9), box(5, 5, 50, 9)}, api.ErrScope},
	} {
		checkArea(t, square(c.holes...), c.want)
	}
	// Each corner of a box is looked at, and a slanting side is, too.
	for i, o := range [][]api.Pt{
		outline(20, 0, 40, 0, 40, 40, 0, 40, 0, 20),
		outline(0, 0, 20, 0, 40, 20, 40, 40, 0, 40),
		outline(0, 0, 40, 0, 40, 20, 20, 40, 0, 40),
		outline(0, 0, 40, 0, 40, 40, 20, 40, 0, 20),
	} {
		for k, b := range []api.Box{box(10, 10, 20, 20), box(20, 10, 30, 20), box(20, 20, 30, 30), box(10, 20, 20, 30)} {
			want := api.OK
			if i == k {
				want = api.ErrScope
			}
			checkArea(t, api.Area{Outline: o, Holes: []api.Box{b}}, want)
		}
	}
}

// wantArea is the list of the chapter, for areas with numbers from -9 to 500, and without limits of many.
func wantArea(a api.Area) api.Errno {
	if len(a.Outline) < 3 {
		return api.ErrArg
	}
	for _, p := range a.Outline {
		if p.U < 0 || p.V < 0 || p.U > 400 || p.V > 400 {
			return api.ErrArg
		}
	}
	for i, p := range a.Outline {
		for _, q := range a.Outline[:i] {
			if p == q {
				return api.ErrTwice
			}
		}
	}
	left := 0
	for _, s := range segments([][]api.Pt{a.Outline}) {
		for _, p := range a.Outline {
			if turn(s.from, s.to, p) < 0 {
				return api.ErrScope
			}
			left += turn(s.from, s.to, p)
		}
	}
	if left == 0 {
		return api.ErrScope
	}
	taken := map[api.Pt]bool{}
	for _, h := range a.Holes {
		if h.From.U >= h.To.U || h.From.V >= h.To.V {
			return api.ErrArg
		}
		for _, p := range boxCorners(h) {
			if lean(a.Outline, ratOf(p.U), ratOf(p.V)) <= 0 {
				return api.ErrScope
			}
		}
		// Boxes with whole coordinates that have a point in common have such a one in common.
		clash := false
		for u := h.From.U; u <= h.To.U; u++ {
			for v := h.From.V; v <= h.To.V; v++ {
				clash = clash || taken[pt(u, v)]
				taken[pt(u, v)] = true
			}
		}
		if clash {
			return api.ErrClash
		}
	}
	return api.OK
}

func TestCheckAreas(t *testing.T) {
	rng := rand.New(rand.NewSource(31))
	seen := map[api.Errno]int{}
	for range 20000 {
		a := randomArea(t, rng, 9)
		switch rng.Intn(6) {
		case 0:
			a = api.Area{}
			for range between(rng, 2, 5) {
				a.Outline = append(a.Outline, pt(rng.Intn(5), rng.Intn(5)))
			}
		case 1:
			a.Outline[rng.Intn(len(a.Outline))] = pt(between(rng, 0, 9), between(rng, -1, 9))
		case 2, 3:
			a = rectangle(0, 0, 12, 12, box(2, 2, 5, 4))
		}
		for range rng.Intn(3) {
			u, v := between(rng, -1, 9), between(rng, 0, 9)
			a.Holes = append(a.Holes, box(u, v, u+between(rng, 0, 4), v+between(rng, 0, 4)))
		}
		if len(a.Holes) > 6 {
			continue
		}
		e, want := coat.CheckArea(a), wantArea(a)
		if e != want {
			t.Fatal(a, e, want)
		}
		seen[e]++
	}
	for _, e := range []api.Errno{api.OK, api.ErrArg, api.ErrTwice, api.ErrScope, api.ErrClash} {
		if seen[e] < 100 {
			t.Error("hardly an area with the error", e, seen)
		}
	}
}

func check(t *testing.T, c api.Coat, want api.Errno) {
	t.Helper()
	if e := coat.Check(c); e != want {
		t.Errorf("%v: %d, not %d", c, e, want)
	}
}

func many(n int, b api.Bundle) []api.Bundle { return slices.Repeat([]api.Bundle{b}, n) }

func TestCheckCourses(t *testing.T) {
	b := bundle(0, 1, 1, 0, 0, 1)
	bad := bundle(0, 0, 1, 0, 0, 1)
	steps := func(n int) []api.Course {
		var list []api.Course
		for i := range n {
			list = append(list, course(i))
		}
		return list
	}
	for _, c := range []struct {
		list []api.Course
		want api.Errno
	}{
		{nil, api.OK},
		{[]api.Course{course(0)}, api.OK},
		{[]api.Course{course(-400), course(400)}, api.OK},
		{steps(24), api.OK},
		{steps(25), api.ErrLimit},
		{make([]api.Course, 25), api.ErrLimit},
		{[]api.Course{course(401)}, api.ErrArg},
		{[]api.Course{course(-401)}, api.ErrArg},
		{[]api.Course{course(math.MinInt)}, api.ErrArg},
		{[]api.Course{course(5), course(401)}, api.ErrArg},
		{[]api.Course{course(5), course(-401)}, api.ErrArg},
		{[]api.Course{course(5), course(5)}, api.ErrState},
		{[]api.Course{course(5), course(4)}, api.ErrState},
		{[]api.Course{course(0, many(96, b)...)}, api.OK},
		{[]api.Course{course(0, many(50, b)...), course(1, many(46, b)...)}, api.OK},
		{[]api.Course{course(0, many(97, b)...)}, api.ErrLimit},
		{[]api.Course{course(0, many(50, b)...), course(1, many(47, b)...)}, api.ErrLimit},
		{[]api.Course{course(0, many(50, b)...), course(0, many(47, b)...)}, api.ErrState},
		{[]api.Course{course(401, many(97, b)...)}, api.ErrArg},
		{[]api.Course{course(0, many(97, bad)...)}, api.ErrLimit},
		{[]api.Course{course(0, b, bad), course(401)}, api.ErrArg},
		{[]api.Course{course(0, bad), course(0)}, api.ErrArg},
		{[]api.Course{course(0, bad), course(1, many(96, b)...)}, api.ErrArg},
		{[]api.Course{course(0), course(0, bad)}, api.ErrState},
		{[]api.Course{course(0, b), course(1, b, b, bad)}, api.ErrArg},
	} {
		check(t, courses(c.list...), c.want)
	}
}

func TestCheckBundles(t *testing.T) {
	for _, c := range []struct {
		b    api.Bundle
		want api.Errno
	}{
		{bundle(0, 1, 1, 0, 0, 1), api.OK},
		{bundle(-400, 100, 100, -50, 49, 1000), api.OK},
		{bundle(400, 99, 100, 50, 49, 1000), api.OK},
		{bundle(-401, 9, 9, 0, 0, 9), api.ErrArg},
		{bundle(401, 9, 9, 0, 0, 9), api.ErrArg},
		{bundle(0, 0, 9, 0, 0, 9), api.ErrArg},
		{bundle(0, -9, 9, 0, -9, 9), api.ErrArg},
		{bundle(0, 101, 9, 0, 0, 9), api.ErrArg},
		{bundle(0, 9, 0, 0, 0, 9), api.ErrArg},
		{bundle(0, 9, 101, 0, 0, 9), api.ErrArg},
		{bundle(0, 9, 9, -51, 0, 9), api.ErrArg},
		{bundle(0, 9, 9, 51, 0, 9), api.ErrArg},
		{bundle(0, 9, 9, 0, -1, 9), api.ErrArg},
		{bundle(0, 9, 9, 0, 4, 9), api.OK},
		{bundle(0, 9, 9, 0, 5, 9), api.ErrArg},
		{bundle(0, 10, 9, 0, 4, 9), api.OK},
		{bundle(0, 10, 9, 0, 5, 9), api.ErrArg},
		{bundle(0, 1, 9, 0, 1, 9), api.ErrArg},
		{bundle(0, 2, 9, 0, 1, 9), api.ErrArg},
		{bundle(0, 9, 9, 0, 1<<62, 9), api.ErrArg},
		{bundle(0, 9, 9, 0, math.MinInt, 9), api.ErrArg},
		{bundle(0, 9, 9, 0, 0, 0), api.ErrArg},
		{bundle(0, 9, 9, 0, 0, 1001), api.ErrArg},
	} {
		check(t, courses(course(0, c.b)), c.want)
		check(t, courses(course(0, bundle(0, 1, 1, 0, 0, 1)), course(3, bundle(0, 1, 1, 0, 0, 1), c.b)), c.want)
	}
}

// Each number that a bundle has is looked at by itself.
func TestCheckAnyBundle(t *testing.T) {
	for i := range 6 {
		for _, n := range strange {
			b := bundle(0, 50, 50, 0, 7, 50)
			*[]*int{&b.U, &b.Width, &b.Length, &b.Lean, &b.Taper, &b.Thick}[i] = n
			low := []int{-400, 15, 1, -50, 0, 1}[i]
			high := []int{400, 100, 100, 50, 24, 1000}[i]
			want := api.OK
			if n < low || n > high {
				want = api.ErrArg
			}
			check(t, courses(course(0, b)), want)
		}
	}
}

// wrongSpots may not be.
func wrongSpots() []api.Spot {
	var list []api.Spot
	for _, r := range []api.Ratio{{}, {Num: 1}, ratio(0, 2), ratio(2, 4), ratio(3, 3), ratio(-1, 1), ratio(-1, 2), ratio(401, 1), ratio(801, 2), ratio(1, -2), ratio(-1, -2), ratio(5, math.MaxInt), ratio(math.MaxInt, 5), ratio(math.MinInt, 1), ratio(math.MinInt, math.MinInt), ratio(math.MaxInt, math.MaxInt), ratio(1, math.MinInt), ratio(400*api.MaxFine+1, api.MaxFine)} {
		list = append(list, api.Spot{U: r, V: whole(3)}, api.Spot{U: whole(3), V: r})
	}
	return append(list,
		api.Spot{U: ratio(1, api.MaxFiner+1), V: whole(3)},
		api.Spot{U: whole(3), V: ratio(1, api.MaxFine+1)},
		api.Spot{U: whole(3), V: ratio(1, api.MaxFiner)},
	)
}

func isInside(t *testing.T, a api.Area, s api.Spot, want bool) {
	t.Helper()
	if in, e := coat.In(a, s); e != api.OK || in != want {
		t.Error(a, s, in, e)
	}
}

func TestIn(t *testing.T) {
	a := square(box(10, 10, 20, 20), box(25, 5, 30, 35))
	for _, s := range []api.Spot{
		at(0, 0), at(40, 0), at(40, 40), at(0, 40), at(0, 7), at(7, 0), at(40, 7), at(7, 40), at(5, 5), at(22, 15),
		at(10, 15), at(20, 15), at(15, 10), at(15, 20), at(10, 10), at(20, 20), at(15, 9), at(15, 21), at(27, 5), at(27, 35),
		{U: ratio(10*api.MaxFiner-1, api.MaxFiner), V: whole(15)},
		{U: whole(15), V: ratio(10*api.MaxFine-1, api.MaxFine)},
		{U: ratio(1, api.MaxFiner), V: ratio(1, api.MaxFine)},
	} {
		isInside(t, a, s, true)
	}
	for _, s := range []api.Spot{
		at(41, 5), at(5, 41), at(400, 400), at(15, 15), at(11, 11), at(26, 34),
		{U: ratio(10*api.MaxFiner+1, api.MaxFiner), V: whole(15)},
		{U: whole(15), V: ratio(10*api.MaxFine+1, api.MaxFine)},
		{U: ratio(40*api.MaxFiner+1, api.MaxFiner), V: whole(15)},
		{U: whole(15), V: ratio(40*api.MaxFine+1, api.MaxFine)},
	} {
		isInside(t, a, s, false)
	}
	// a corner below and one above, sides that slant, and a straight corner
	a = area(nil, 10, 5, 30, 20, 20, 40, 10, 30, 0, 20, 5, 12)
	for _, s := range []api.Spot{at(10, 5), at(20, 40), at(30, 20), at(0, 20), at(5, 25), {U: whole(20), V: ratio(25, 2)}} {
		isInside(t, a, s, true)
	}
	for _, s := range []api.Spot{at(9, 5), at(11, 5), at(10, 4), at(19, 40), at(21, 40), at(20, 41), at(31, 20), at(4, 25), {U: whole(20), V: ratio(12*13+5, 13)}} {
		isInside(t, a, s, false)
	}
	for _, s := range wrongSpots() {
		if in, e := coat.In(a, s); e != api.ErrArg || in {
			t.Error(s, in, e)
		}
		if in, e := coat.In(api.Area{Outline: outline(0, 0, 9, 0, 9, 0)}, s); e != api.ErrTwice || in {
			t.Error(s, in, e)
		}
	}
}

// At the limits of numbers a spot next to a side is told from one on it.
func TestFineSpots(t *testing.T) {
	a := area(nil, 0, 0, 400, 0, 400, 399, 1, 400)
	for _, v := range []api.Ratio{ratio(159999, 160000), ratio(159989*399, 159989), ratio(400*159989-1, 159989), ratio(63999999, 160000)} {
		v = lowest(v.Num, v.Den)
		den := api.MaxFiner
		// The left side goes from (0, 0) to (1, 400): U is at least V / 400.
		num := (v.Num*den + 400*v.Den - 1) / (400 * v.Den)
		for k := -3; k <= 3; k++ {
			s := api.Spot{U: lowest(num+k, den), V: v}
			isInside(t, a, s, wantIn(a, rat(s.U), rat(s.V)))
		}
		isInside(t, a, api.Spot{U: lowest(num, den), V: v}, wantIn(a, rat(lowest(num, den)), rat(v)))
	}
	c := courses(course(300, bundle(350, 100, 100, -50, 49, 1)))
	for v := 300; v < 400; v += 11 {
		r := lowest(v*159989+7, 159989)
		edge := places(segments(shapes(api.Area{}, c)), rat(r))[0]
		den := api.MaxFiner
		num := int(edge.Num().Int64()) * den / int(edge.Denom().Int64())
		for k := -2; k <= 2; k++ {
			s := api.Spot{U: lowest(num+k, den), V: r}
			if l, e := coat.Over(c, s); e != api.OK || !slices.Equal(l, wantOver(c, rat(s.U), rat(s.V))) {
				t.Error(s, l, e)
			}
		}
	}
}

func liesOver(t *testing.T, c api.Coat, s api.Spot, want ...int) {
	t.Helper()
	if l, e := coat.Over(c, s); e != api.OK || !slices.Equal(l, want) {
		t.Error(s, l, e, want)
	}
}

func TestOver(t *testing.T) {
	c := example()
	liesOver(t, c, at(20, 30), 0, 1, 2)
	liesOver(t, c, at(1, 1), 0)
	liesOver(t, c, at(15, 20), 0, 1, 2)
	liesOver(t, c, at(25, 19), 0, 1)
	liesOver(t, c, at(26, 19), 1)
	liesOver(t, c, at(45, 40), 1)
	liesOver(t, c, at(46, 40))
	liesOver(t, c, at(40, 40), 1, 2)
	liesOver(t, c, at(40, 41))
	liesOver(t, c, api.Spot{U: ratio(51, 2), V: ratio(39, 2)}, 1)
	liesOver(t, api.Coat{}, at(0, 0))
	// a course without bundles has no number
	liesOver(t, courses(course(-9), course(0, bundle(0, 9, 9, 0, 0, 1)), course(1), course(2, bundle(0, 9, 9, 0, 0, 1))), at(2, 2), 0, 1)
	// one that leans to the right, and is less wide at its top
	c = courses(course(10, bundle(0, 20, 20, 10, 5, 7)))
	for _, s := range []api.Spot{at(0, 10), at(20, 10), at(15, 30), at(25, 30), at(8, 20), at(22, 20), {U: ratio(15, 2), V: whole(20)}, {U: ratio(45, 2), V: whole(20)}} {
		liesOver(t, c, s, 0)
	}
	for _, s := range []api.Spot{at(21, 10), at(0, 9), at(0, 11), at(14, 30), at(26, 30), at(20, 31), at(7, 20), at(23, 20), {U: ratio(74, 10*10-1), V: whole(20)}} {
		liesOver(t, c, s)
	}
	// one that leans to the left, from beyond the right
	c = courses(course(-20, bundle(30, 10, 40, -40, 2, 7)))
	for _, s := range []api.Spot{at(10, 0), at(11, 0), at(19, 0), at(0, 10), at(0, 11), at(8, 10), at(0, 18)} {
		liesOver(t, c, s, wantOver(c, rat(s.U), rat(s.V))...)
	}
	for _, s := range wrongSpots() {
		if l, e := coat.Over(example(), s); e != api.ErrArg || l != nil {
			t.Error(s, l, e)
		}
		if l, e := coat.Over(courses(course(0), course(0)), s); e != api.ErrState || l != nil {
			t.Error(s, l, e)
		}
	}
}

func TestInAndOverOfAny(t *testing.T) {
	rng := rand.New(rand.NewSource(32))
	in := [2]int{}
	for i := range 800 {
		size := []int{12, 60, 400}[i%3]
		a, c := randomArea(t, rng, size), randomCoat(rng, size, 6)
		for k := range 30 {
			s := randomSpot(rng, size, 1+k%4)
			want := wantIn(a, rat(s.U), rat(s.V))
			isInside(t, a, s, want)
			liesOver(t, c, s, wantOver(c, rat(s.U), rat(s.V))...)
			if want {
				in[1]++
			} else {
				in[0]++
			}
		}
	}
	if in[0] < 1000 || in[1] < 1000 {
		t.Error(in)
	}
}
