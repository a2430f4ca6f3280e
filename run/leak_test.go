package run_test

import (
	"math/rand"
	"slices"
	"testing"

	"thatch/api"
	"thatch/run"
)

// P5.2 (Wet, Needs, Leak).

func isWet(t *testing.T, a api.Area, c api.Coat, wear int, leaks bool, bundles ...int) {
	t.Helper()
	if l, yes := wet(t, a, c, wear); yes != leaks || !slices.Equal(l, bundles) {
		t.Error(a, c, "with", wear, "are wet", l, yes, "not", bundles, leaks)
	}
}

func isNeeds(t *testing.T, a api.Area, c api.Coat, want ...int) {
	t.Helper()
	if l := needs(t, a, c); !slices.Equal(l, want) {
		t.Error(a, c, "has the needs", l, "not", want)
	}
}

func isLeak(t *testing.T, a api.Area, c api.Coat, wear int, way ...int) {
	t.Helper()
	if w, l := leak(t, a, c); w != wear || !slices.Equal(l, way) {
		t.Error(a, c, "leaks with", w, "on the way", l, "not", wear, way)
	}
}

func TestLeakExamples(t *testing.T) {
	isWet(t, square(), example(), 60, false, 0, 1)
	isNeeds(t, square(), example(), 0, 0)
	isLeak(t, square(), example(), 100, 0)
}

// hidden has 0 below 1, and its butt below the eave.
func hidden() api.Coat { return courses(wholly(-5, 70), wholly(-4, 20)) }

func TestWet(t *testing.T) {
	isWet(t, square(), hidden(), 0, false, 1)
	isWet(t, square(), hidden(), 19, false, 1)
	isWet(t, square(), hidden(), 20, false, 0, 1)
	isWet(t, square(), hidden(), 69, false, 0, 1)
	isWet(t, square(), hidden(), 70, true, 0, 1)
	isWet(t, square(), hidden(), api.MaxThick, true, 0, 1)
	isWet(t, square(), api.Coat{}, 0, true)
	isWet(t, square(), courses(wholly(-60, 5)), 0, true)
	// Water drips from a bundle onto a batten, though no rain comes to one.
	drip := courses(course(20, bundle(0, 40, 20, 9)))
	isWet(t, rectangle(0, 20, 40, 40), drip, 0, false, 0)
	isWet(t, rectangle(0, 20, 40, 40), drip, 9, true, 0)
	isWet(t, rectangle(0, 19, 40, 40), drip, 0, true, 0)
	// with the greatest wear and the thickest bundle
	thick := courses(wholly(-5, 1000))
	isWet(t, square(), thick, 999, false, 0)
	isWet(t, square(), thick, 1000, true, 0)
	for _, wear := range []int{-1, 1001, -1 << 62, 1 << 62} {
		if l, leaks, e := run.Wet(square(), hidden(), wear); e != api.ErrArg || l != nil || leaks {
			t.Error(wear, l, leaks, e)
		}
	}
}

func TestNeeds(t *testing.T) {
	isNeeds(t, square(), api.Coat{})
	isNeeds(t, square(), hidden(), 20, 0)
	// through one after the other: the greatest wear on the way counts
	isNeeds(t, square(), courses(wholly(-5, 1), wholly(-4, 8), wholly(-3, 9), wholly(-2, 4)), 9, 9, 4, 0)
	isNeeds(t, square(), courses(wholly(-5, 1), wholly(-4, 4), wholly(-3, 8), wholly(-2, 9)), 9, 9, 9, 0)
	// Of two ways to 0 the one through the thinner bundle is the lesser one.
	isNeeds(t, square(), courses(wholly(-5, 50), course(-4, bundle(0, 20, 50, 7), bundle(20, 20, 50, 3))), 3, 0, 0)
	// Where 1 is thick, water comes below it by the butt of 2.
	isNeeds(t, square(), courses(wholly(-5, 50), course(-4, bundle(0, 40, 25, 30)), course(21, bundle(0, 40, 30, 40))), 30, 0, 0)
	isNeeds(t, square(), courses(wholly(-5, 50), course(-4, bundle(0, 40, 24, 30)), course(21, bundle(0, 40, 30, 40))), 0, 0, 0)
	// Water never comes to what lies outside of the area, nor to what is hidden in a hole or by its edges.
	isNeeds(t, square(), courses(course(-60, bundle(0, 40, 50, 7)), wholly(-5, 3)), -1, 0)
	isNeeds(t, square(), courses(wholly(-50, 7), course(-10, bundle(-40, 40, 60, 5)), course(40, bundle(0, 9, 9, 9))), -1, -1, -1)
	isNeeds(t, square(box(10, 10, 20, 20)), courses(wholly(-5, 3), course(10, bundle(10, 10, 10, 5))), 0, -1)
	isNeeds(t, square(box(10, 10, 20, 20)), courses(wholly(-5, 3), course(10, bundle(10, 11, 10, 5))), 0, 0)
}

func TestLeak(t *testing.T) {
	isLeak(t, square(), api.Coat{}, 0)
	isLeak(t, square(), hidden(), 70, 1, 0)
	isLeak(t, square(), courses(wholly(-5, 1000)), 1000, 0)
	// Rain comes to a batten at once: no bundle is on the way, though it would come by one as well.
	isLeak(t, square(), courses(course(20, bundle(0, 40, 20, 9))), 0)
	isLeak(t, square(), courses(wholly(-8, 2), wholly(-7, 9), wholly(-6, 1), wholly(-5, 3), wholly(-4, 8), wholly(-3, 4)), 9, 5, 4, 3, 2, 1, 0)
	// Above the end of 1 there is 2 alone.
	isLeak(t, square(), courses(course(-5, bundle(0, 20, 50, 9), bundle(20, 20, 14, 9)), course(9, bundle(20, 20, 31, 5))), 5, 2)
	isLeak(t, square(), courses(course(-5, bundle(0, 20, 50, 9), bundle(19, 21, 13, 9)), course(8, bundle(20, 20, 32, 5))), 5, 2)
	// Between the heights 8 and 9 battens lie bare.
	isLeak(t, square(), courses(course(-5, bundle(0, 20, 50, 9), bundle(20, 20, 13, 9)), course(9, bundle(20, 20, 31, 5))), 0)
}

// Of all ways with the least wear the one with the fewest bundles is told, of these the least one.
func TestLeakTellsTheLeastWay(t *testing.T) {
	half := func(v, left, right int) api.Course {
		return course(v, bundle(0, 20, 50, left), bundle(20, 20, 50, right))
	}
	// equally thick on both sides, twice
	isLeak(t, square(), courses(half(-5, 5, 5), half(-4, 5, 5)), 5, 2, 0)
	isLeak(t, square(), courses(half(-5, 5, 5), half(-4, 5, 4)), 5, 2, 0)
	isLeak(t, square(), courses(half(-5, 5, 5), half(-4, 6, 5)), 5, 3, 1)
	// fewer bundles on the right
	isLeak(t, square(), courses(half(-5, 5, 5), course(-4, bundle(0, 20, 50, 5))), 5, 1)
	isLeak(t, square(), courses(course(-5, bundle(0, 20, 50, 5)), course(-4, bundle(0, 20, 50, 5)), course(-3, bundle(20, 20, 50, 5))), 5, 2)
	// fewer bundles, but more wear
	isLeak(t, square(), courses(half(-5, 5, 6), course(-4, bundle(0, 20, 50, 5))), 5, 2, 0)
	// The thick 0 is needed anyway: fewest bundles go through 1, which is thicker than 2 and 3.
	c := courses(wholly(-5, 9), half(-4, 8, 1), course(-3, bundle(20, 20, 50, 1)))
	isNeeds(t, square(), c, 1, 0, 1, 0)
	isLeak(t, square(), c, 9, 1, 0)
	// Ways part behind the third bundle.
	isLeak(t, square(), courses(half(-8, 5, 5), wholly(-7, 5), wholly(-6, 5), wholly(-5, 5)), 5, 4, 3, 2, 0)
	isLeak(t, square(), courses(half(-8, 6, 5), wholly(-7, 5), wholly(-6, 5), wholly(-5, 5)), 5, 4, 3, 2, 1)
	// The least list of several with three bundles each has not the least bundle at its end.
	c = courses(half(-5, 3, 3), course(-4, bundle(20, 20, 50, 3), bundle(0, 20, 50, 3)), course(-3, bundle(20, 20, 50, 3), bundle(0, 20, 50, 3)))
	isLeak(t, square(), c, 3, 4, 2, 1)
}

func TestLeakOfRandomCoats(t *testing.T) {
	rng := rand.New(rand.NewSource(75))
	bare, never, longest := 0, 0, 0
	wears := map[int]int{}
	for i := range 1500 {
		size := []int{8, 15, 40, 90}[i%4]
		a, c := randomArea(rng, size), randomCoat(rng, size, 4)
		list := links(t, a, c)
		count := len(allBundles(c))
		want := wantNeeds(list, count)
		isNeeds(t, a, c, want[:count]...)
		isLeak(t, a, c, want[count], wantWay(list, want[count])...)
		for wear := range 11 {
			var bundles []int
			for number, need := range want[:count] {
				if 0 <= need && need <= wear {
					bundles = append(bundles, number)
				}
			}
			isWet(t, a, c, wear, want[count] <= wear, bundles...)
		}
		if t.Failed() {
			t.FailNow()
		}
		_, way := leak(t, a, c)
		longest = max(longest, len(way))
		wears[want[count]]++
		if slices.Contains(want, -1) {
			never++
		}
		if len(way) == 0 {
			bare++
		}
	}
	if bare < 100 || bare > 1200 || never < 100 || longest < 3 || len(wears) < 8 {
		t.Error(bare, never, longest, wears)
	}
}

// With more wear water never comes to less, and with the greatest one it always comes to a batten.
func TestMoreWear(t *testing.T) {
	rng := rand.New(rand.NewSource(76))
	for i := range 200 {
		size := []int{15, 40}[i%2]
		a, c := randomArea(rng, size), randomCoat(rng, size, 4)
		var last []int
		leaked := false
		for wear := range 11 {
			l, leaks := wet(t, a, c, wear)
			if leaked && !leaks || slices.ContainsFunc(last, func(number int) bool { return !slices.Contains(l, number) }) {
				t.Fatal(a, c, wear, last, l)
			}
			last, leaked = l, leaks
		}
		if _, leaks := wet(t, a, c, api.MaxThick); !leaks {
			t.Fatal(a, c)
		}
	}
}

func TestLeakErrors(t *testing.T) {
	for _, x := range wrongOnes() {
		for _, wear := range []int{0, -1} {
			if l, leaks, e := run.Wet(x.a, x.c, wear); e != x.want || l != nil || leaks {
				t.Error(x, l, leaks, e)
			}
		}
		if l, e := run.Needs(x.a, x.c); e != x.want || l != nil {
			t.Error(x, l, e)
		}
		if w, l, e := run.Leak(x.a, x.c); e != x.want || w != 0 || l != nil {
			t.Error(x, w, l, e)
		}
	}
}
