package coat_test

import (
	"cmp"
	"math"
	"math/rand"
	"slices"
	"testing"

	"thatch/api"
	"thatch/coat"
)

// P3.3 (worn).

func TestWorn(t *testing.T) {
	c := example()
	for _, x := range []struct {
		take int
		want api.Coat
	}{
		{0, c},
		{1, courses(course(0, bundle(-5, 30, 40, 0, 0, 99), bundle(15, 30, 40, 0, 0, 99)), course(20, bundle(0, 40, 20, 0, 0, 49)))},
		{49, courses(course(0, bundle(-5, 30, 40, 0, 0, 51), bundle(15, 30, 40, 0, 0, 51)), course(20, bundle(0, 40, 20, 0, 0, 1)))},
		{50, courses(course(0, bundle(-5, 30, 40, 0, 0, 50), bundle(15, 30, 40, 0, 0, 50)), course(20))},
		{60, courses(course(0, bundle(-5, 30, 40, 0, 0, 40), bundle(15, 30, 40, 0, 0, 40)), course(20))},
		{100, courses(course(0), course(20))},
		{1000, courses(course(0), course(20))},
	} {
		if w, e := coat.Worn(c, x.take); e != api.OK || !sameCoat(w, x.want) {
			t.Error(x.take, w, e)
		}
	}
	mixed := courses(course(-400), course(3, bundle(5, 9, 9, -3, 2, 1000), bundle(4, 9, 9, 3, 2, 5), bundle(3, 9, 9, 0, 1, 6)))
	want := courses(course(-400), course(3, bundle(5, 9, 9, -3, 2, 995), bundle(3, 9, 9, 0, 1, 1)))
	if w, e := coat.Worn(mixed, 5); e != api.OK || !sameCoat(w, want) {
		t.Error(w, e)
	}
	if w, e := coat.Worn(api.Coat{}, 5); e != api.OK || len(w.Courses) != 0 {
		t.Error(w, e)
	}
	for _, take := range []int{-1, 1001, math.MinInt, math.MaxInt} {
		if w, e := coat.Worn(c, take); e != api.ErrArg || w.Courses != nil {
			t.Error(take, w, e)
		}
		if w, e := coat.Worn(courses(course(0), course(0)), take); e != api.ErrState || w.Courses != nil {
			t.Error(take, w, e)
		}
	}
}

func pile(width, length, taper, thick, count int) api.Pile {
	return api.Pile{Make: api.Make{Width: width, Length: length, Taper: taper, Thick: thick}, Count: count}
}

func TestPiles(t *testing.T) {
	for _, x := range []struct {
		c    api.Coat
		want []api.Pile
	}{
		{api.Coat{}, nil},
		{courses(course(0), course(3)), nil},
		{example(), []api.Pile{pile(30, 40, 0, 100, 2), pile(40, 20, 0, 50, 1)}},
		// U, Lean and the course are of no matter
		{courses(course(0, bundle(1, 9, 8, 3, 2, 7), bundle(2, 9, 8, -3, 2, 7)), course(1, bundle(1, 9, 8, 0, 2, 7))), []api.Pile{pile(9, 8, 2, 7, 3)}},
		// each field counts, in order
		{courses(course(0, bundle(0, 10, 1, 0, 0, 1), bundle(0, 9, 9, 0, 1, 9), bundle(0, 9, 9, 0, 1, 2), bundle(0, 9, 9, 0, 0, 10), bundle(0, 9, 8, 0, 4, 1000), bundle(0, 9, 9, 0, 1, 9))),
			[]api.Pile{pile(9, 8, 4, 1000, 1), pile(9, 9, 0, 10, 1), pile(9, 9, 1, 2, 1), pile(9, 9, 1, 9, 2), pile(10, 1, 0, 1, 1)}},
	} {
		if l, e := coat.Piles(x.c); e != api.OK || !slices.Equal(l, x.want) {
			t.Error(x.c, l, e)
		}
	}
	if l, e := coat.Piles(courses(course(0), course(0))); e != api.ErrState || l != nil {
		t.Error(l, e)
	}
}

func TestPilesOfAny(t *testing.T) {
	rng := rand.New(rand.NewSource(36))
	for range 500 {
		c := randomCoat(rng, between(rng, 2, 5), 12)
		l, e := coat.Piles(c)
		all := allBundles(c)
		count := 0
		for i, p := range l {
			same := 0
			for _, x := range all {
				if (api.Make{Width: x.b.Width, Length: x.b.Length, Taper: x.b.Taper, Thick: x.b.Thick}) == p.Make {
					same++
				}
			}
			if same != p.Count || same == 0 || i > 0 && compareMakes(l[i-1].Make, p.Make) >= 0 {
				t.Fatal(c, l)
			}
			count += p.Count
		}
		if e != api.OK || count != len(all) {
			t.Fatal(c, l, e)
		}
	}
}

func compareMakes(a, b api.Make) int {
	return cmp.Or(a.Width-b.Width, a.Length-b.Length, a.Taper-b.Taper, a.Thick-b.Thick)
}
