package coat_test

import (
	"math/rand"
	"slices"
	"testing"

	"thatch/api"
	"thatch/coat"
)

// P3.2 (least).

// isLeast wants these to be the least layers and the least thickness, and each to be over the spot that is told.
func isLeast(t *testing.T, a api.Area, c api.Coat, layers, thick int) {
	t.Helper()
	n, s, e := coat.Least(a, c)
	if in, f := coat.In(a, s); e != api.OK || n != layers || f != api.OK || !in {
		t.Fatal(a, c, "layers", n, "of", layers, s, e, in, f)
	}
	if !wantIn(a, rat(s.U), rat(s.V)) || len(wantOver(c, rat(s.U), rat(s.V))) != layers {
		t.Fatal(a, c, "layers", s)
	}
	k, s, e := coat.Thinnest(a, c)
	if in, f := coat.In(a, s); e != api.OK || k != thick || f != api.OK || !in {
		t.Fatal(a, c, "thick", k, "of", thick, s, e, in, f)
	}
	if !wantIn(a, rat(s.U), rat(s.V)) || thickOf(c, wantOver(c, rat(s.U), rat(s.V))) != thick {
		t.Fatal(a, c, "thick", s)
	}
}

func TestLeast(t *testing.T) {
	isLeast(t, square(), example(), 1, 100)
	isLeast(t, square(), api.Coat{}, 0, 0)
	isLeast(t, square(), courses(course(0)), 0, 0)
	whole := bundle(0, 40, 40, 0, 0, 7)
	isLeast(t, square(), courses(course(0, whole)), 1, 7)
	isLeast(t, square(), courses(course(1, whole)), 0, 0)
	isLeast(t, square(), courses(course(-1, whole)), 0, 0)
	isLeast(t, square(), courses(course(0, bundle(1, 40, 40, 0, 0, 7))), 0, 0)
	isLeast(t, square(), courses(course(0, bundle(-1, 40, 40, 0, 0, 7))), 0, 0)
	// side by side, and one above the other, without a gap
	isLeast(t, square(), courses(course(0, bundle(0, 20, 40, 0, 0, 7), bundle(20, 20, 40, 0, 0, 9))), 1, 7)
	isLeast(t, square(), courses(course(0, bundle(0, 40, 20, 0, 0, 9)), course(20, bundle(0, 40, 20, 0, 0, 7))), 1, 7)
	// few and thick, or many and thin
	c := courses(course(0, bundle(0, 20, 40, 0, 0, 100), bundle(20, 20, 40, 0, 0, 5), bundle(20, 20, 40, 0, 0, 6)))
	isLeast(t, square(), c, 1, 11)
	// what a hole has over it does not count
	gap := courses(course(0, bundle(0, 18, 40, 0, 0, 1), bundle(22, 18, 40, 0, 0, 1)), course(10, bundle(0, 40, 1, 0, 0, 1)))
	isLeast(t, square(), gap, 0, 0)
	isLeast(t, rectangle(0, 0, 40, 11, box(18, 1, 22, 10)), gap, 0, 0)
	round := courses(
		course(0, bundle(0, 40, 10, 0, 0, 3), bundle(0, 10, 40, 0, 0, 3), bundle(20, 20, 40, 0, 0, 3)),
		course(20, bundle(0, 40, 20, 0, 0, 3)),
	)
	isLeast(t, square(), round, 0, 0)
	isLeast(t, square(box(10, 10, 20, 20)), round, 1, 3)
	isLeast(t, square(box(11, 10, 20, 20)), round, 0, 0)
	isLeast(t, square(box(10, 10, 20, 19)), round, 0, 0)
}

// Between bundles that lean or are less wide at the top there are gaps that no whole point is in.
func TestLeastInSmallGaps(t *testing.T) {
	isLeast(t, square(), courses(course(0, bundle(-10, 30, 40, -4, 0, 10), bundle(20, 30, 40, 4, 0, 10))), 0, 0)
	// a gap as high as 40 and as wide as 1 at the top
	isLeast(t, square(), courses(course(0, bundle(-10, 30, 40, 0, 0, 10), bundle(20, 30, 40, 1, 0, 10))), 0, 0)
	isLeast(t, square(), courses(course(0, bundle(-10, 30, 40, 0, 0, 10), bundle(20, 30, 40, 0, 0, 10))), 1, 10)
	// a triangle among three that cross near (20, 20)
	c := courses(
		course(0, bundle(-29, 50, 40, -1, 0, 1), bundle(20, 50, 40, 2, 0, 1), bundle(-80, 99, 21, 0, 0, 1)),
		course(22, bundle(-10, 70, 40, 0, 0, 1)),
	)
	layers, thick := wantLeast(square(), c)
	isLeast(t, square(), c, layers, thick)
	if layers != 0 {
		t.Error(layers)
	}
	// a corner of the outline looks out
	isLeast(t, area(nil, 0, 0, 40, 0, 40, 40, 20, 41, 0, 40), courses(course(0, bundle(0, 40, 40, 0, 0, 1))), 0, 0)
}

func TestLeastErrors(t *testing.T) {
	good, bad := example(), courses(course(0), course(0))
	wrong := api.Area{Outline: outline(0, 0, 9, 0, 9, 0)}
	for _, x := range []struct {
		a    api.Area
		c    api.Coat
		v    api.Ratio
		want api.Errno
	}{
		{wrong, bad, api.Ratio{}, api.ErrTwice},
		{wrong, good, whole(3), api.ErrTwice},
		{square(), bad, api.Ratio{}, api.ErrState},
		{square(), bad, whole(3), api.ErrState},
	} {
		if n, s, e := coat.Least(x.a, x.c); e != x.want || n != 0 || s != (api.Spot{}) {
			t.Error(n, s, e)
		}
		if n, s, e := coat.Thinnest(x.a, x.c); e != x.want || n != 0 || s != (api.Spot{}) {
			t.Error(n, s, e)
		}
		if l, e := coat.Row(x.a, x.c, x.v); e != x.want || l != nil {
			t.Error(l, e)
		}
	}
	for _, s := range wrongSpots() {
		if l, e := coat.Row(square(), good, s.U); s.V == whole(3) && s.U.Den <= 1000 && (e != api.ErrArg || l != nil) {
			t.Error(s.U, l, e)
		}
	}
	for _, v := range []api.Ratio{ratio(1, 1001), ratio(1, api.MaxFine), ratio(400001, 1000)} {
		if l, e := coat.Row(square(), good, v); e != api.ErrArg || l != nil {
			t.Error(v, l, e)
		}
	}
	for _, v := range []api.Ratio{ratio(1, 1000), ratio(399999, 1000), whole(0), whole(400)} {
		if _, e := coat.Row(square(), good, v); e != api.OK {
			t.Error(v, e)
		}
	}
}

// covered returns a coat with bundles that cover all of a small area, but maybe its borders, in place of those below it.
func covered(rng *rand.Rand, size int, c api.Coat) api.Coat {
	var d api.Coat
	for k := range between(rng, 1, 3) {
		width, length := min(api.MaxWidth, size+5), min(api.MaxLength, size+4)
		b := bundle(between(rng, -4, -1), width, length, between(rng, -1, 1), between(rng, 0, 1), between(rng, 1, 4))
		d.Courses = append(d.Courses, course(k-3, b))
	}
	above := func(k api.Course) bool { return k.V >= 0 }
	if i := slices.IndexFunc(c.Courses, above); i >= 0 {
		d.Courses = append(d.Courses, c.Courses[i:]...)
	}
	return d
}

func TestLeastOfAny(t *testing.T) {
	rng := rand.New(rand.NewSource(33))
	seen := map[int]int{}
	for i := range 1200 {
		size := []int{6, 12, 40, 400}[i%4]
		a, c := randomArea(t, rng, size), randomCoat(rng, size, 3)
		if rng.Intn(2) == 0 {
			c = covered(rng, size, c)
		}
		layers, thick := wantLeast(a, c)
		isLeast(t, a, c, layers, thick)
		seen[layers]++
	}
	if seen[0] < 50 || seen[1] < 50 || seen[2] < 20 {
		t.Error(seen)
	}
}

// With as many bundles as there may be, laid anyhow, spots still are ones that may be.
func TestLeastOfMany(t *testing.T) {
	rng := rand.New(rand.NewSource(34))
	for range 3 {
		a := area([]api.Box{box(150, 150, 160, 170)}, 0, 3, 393, 0, 400, 391, 7, 400, 1, 200)
		var c api.Coat
		for i := range api.MaxCourses {
			k := course(100 + 2*i)
			for range 4 {
				width := between(rng, 90, 100)
				k.Bundles = append(k.Bundles, bundle(between(rng, 100, 180), width, between(rng, 80, 100), between(rng, -50, 50), between(rng, 0, 44), between(rng, 1, 1000)))
			}
			c.Courses = append(c.Courses, k)
		}
		isLeast(t, a, c, 0, 0)
		inner := rectangle(190, 147, 217, 180)
		layers, s, e := coat.Least(inner, c)
		if e != api.OK || len(wantOver(c, rat(s.U), rat(s.V))) != layers || layers == 0 {
			t.Error(layers, s, e)
		}
		thick, s, e := coat.Thinnest(inner, c)
		if e != api.OK || thickOf(c, wantOver(c, rat(s.U), rat(s.V))) != thick {
			t.Error(thick, s, e)
		}
		for range 2000 {
			s := randomSpot(rng, 400, 3)
			if in, _ := coat.In(inner, s); in {
				over := wantOver(c, rat(s.U), rat(s.V))
				if len(over) < layers || thickOf(c, over) < thick {
					t.Fatal(s, over)
				}
			}
		}
	}
}

// Two bundles leave a gap in a narrow area that is so small that only a spot with a divisor near to the limit is in it, or one with a lesser divisor by luck.
func TestFinestSpots(t *testing.T) {
	a := area(nil, 397, 0, 397, 1, 1, 396, 0, 396)
	c := courses(course(170, bundle(166, 100, 97, 50, 48, 1)), course(186, bundle(123, 60, 58, 50, 0, 1)))
	// All else is covered by bundles that lean as much as the area does.
	for v := 0; v <= 351; v += 50 {
		if v == 200 {
			v = 201
		}
		c.Courses = append(c.Courses, course(v, bundle(397*(396-v)/396-20, 60, 50, -50, 0, 1)))
	}
	slices.SortFunc(c.Courses, func(x, y api.Course) int { return x.V - y.V })
	if layers, thick := wantLeast(a, c); layers != 0 || thick != 0 {
		t.Fatal(layers, thick)
	}
	isLeast(t, a, c, 0, 0)
	_, s, _ := coat.Least(a, c)
	if s.V.Den < 100000 {
		t.Error("this gap is no small one", s)
	}
}

func isRow(t *testing.T, a api.Area, c api.Coat, v api.Ratio, want ...api.Stretch) {
	t.Helper()
	if l, e := coat.Row(a, c, v); e != api.OK || !slices.Equal(l, want) {
		t.Error(a, c, v, l, e, want)
	}
}

func stretch(from, to, layers, thick int) api.Stretch {
	return api.Stretch{From: whole(from), To: whole(to), Layers: layers, Thick: thick}
}

func TestRow(t *testing.T) {
	c := example()
	isRow(t, square(), c, whole(10), stretch(0, 15, 1, 100), stretch(15, 25, 2, 200), stretch(25, 40, 1, 100))
	// both edges of a bundle are of it
	for _, v := range []api.Ratio{whole(20), ratio(41, 2), whole(40)} {
		isRow(t, square(), c, v, stretch(0, 15, 2, 150), stretch(15, 25, 3, 250), stretch(25, 40, 2, 150))
	}
	isRow(t, square(), c, whole(0), stretch(0, 15, 1, 100), stretch(15, 25, 2, 200), stretch(25, 40, 1, 100))
	isRow(t, square(), c, whole(41))
	isRow(t, square(), api.Coat{}, whole(40), stretch(0, 40, 0, 0))
	// at the edges of a hole it is not there
	a := square(box(12, 5, 18, 15))
	isRow(t, a, c, whole(10), stretch(0, 12, 1, 100), stretch(18, 25, 2, 200), stretch(25, 40, 1, 100))
	for _, v := range []api.Ratio{whole(5), whole(15)} {
		isRow(t, a, c, v, stretch(0, 15, 1, 100), stretch(15, 25, 2, 200), stretch(25, 40, 1, 100))
	}
	isRow(t, a, api.Coat{}, ratio(5001, 1000), stretch(0, 12, 0, 0), stretch(18, 40, 0, 0))
	isRow(t, a, api.Coat{}, ratio(4999, 1000), stretch(0, 40, 0, 0))
	// side by side without a gap: finitely many points have more
	c = courses(course(0, bundle(0, 20, 40, 0, 0, 10), bundle(20, 20, 40, 0, 0, 10)))
	isRow(t, square(), c, ratio(1, 3), stretch(0, 40, 1, 10))
	c.Courses[0].Bundles[1].Thick = 9
	isRow(t, square(), c, ratio(1, 3), stretch(0, 20, 1, 10), stretch(20, 40, 1, 9))
	// as thick, but not as many
	c = courses(course(0, bundle(0, 20, 40, 0, 0, 10), bundle(20, 20, 40, 0, 0, 4), bundle(20, 20, 40, 0, 0, 6)))
	isRow(t, square(), c, ratio(1, 3), stretch(0, 20, 1, 10), stretch(20, 40, 2, 10))
	// two that begin, and two that end, at one point
	c = courses(course(0, bundle(0, 20, 40, 0, 0, 1), bundle(10, 20, 40, 0, 0, 1), bundle(20, 10, 40, 0, 0, 1), bundle(30, 10, 40, 0, 0, 2)))
	isRow(t, square(), c, whole(7), stretch(0, 10, 1, 1), stretch(10, 30, 2, 2), stretch(30, 40, 1, 2))
	// a line through one corner alone, and along an edge
	isRow(t, area(nil, 10, 0, 20, 10, 0, 10), c, whole(0))
	isRow(t, area(nil, 0, 0, 20, 0, 10, 10), c, whole(10))
	isRow(t, area(nil, 10, 0, 20, 10, 0, 10), api.Coat{}, whole(10), stretch(0, 20, 0, 0))
	isRow(t, area(nil, 0, 0, 20, 0, 10, 10), api.Coat{}, whole(0), stretch(0, 20, 0, 0))
	isRow(t, area(nil, 0, 0, 9, 0, 20, 0, 10, 10), api.Coat{}, whole(0), stretch(0, 20, 0, 0))
	isRow(t, area(nil, 0, 0, 20, 0, 20, 5, 20, 10, 0, 10, 0, 5), api.Coat{}, whole(5), stretch(0, 20, 0, 0))
	// quotients, in lowest terms
	isRow(t, area(nil, 0, 0, 20, 0, 1, 30), courses(course(0, bundle(0, 9, 9, 3, 1, 5))), whole(6),
		api.Stretch{From: ratio(1, 5), To: ratio(8, 3), Layers: 0, Thick: 0},
		api.Stretch{From: ratio(8, 3), To: ratio(31, 3), Layers: 1, Thick: 5},
		api.Stretch{From: ratio(31, 3), To: ratio(81, 5), Layers: 0, Thick: 0})
}

func TestRowOfAny(t *testing.T) {
	rng := rand.New(rand.NewSource(35))
	for i := range 1500 {
		size := []int{6, 20, 100, 400}[i%4]
		a, c := randomArea(t, rng, size), randomCoat(rng, size, 5)
		for range 4 {
			v := whole(rng.Intn(size + 1))
			if rng.Intn(2) == 0 {
				v = randomPlace(rng, size, []int{2, 10, 1000}[rng.Intn(3)])
			}
			isRow(t, a, c, v, wantRow(a, c, v)...)
		}
	}
}
