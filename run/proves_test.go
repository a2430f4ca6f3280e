package run_test

import (
	"math"
	"math/rand"
	"slices"
	"testing"

	"thatch/api"
	"thatch/run"
)

// P5.3 (Proves).

func isProof(t *testing.T, a api.Area, c api.Coat, wear int, want bool, l ...int) {
	t.Helper()
	if yes := proves(t, a, c, wear, l); yes != want {
		t.Error(a, c, wear, l, yes)
	}
}

func TestProvesExample(t *testing.T) {
	isProof(t, square(), example(), 100, true, 0, 0)
	isProof(t, square(), example(), 101, false, 0, 0)
}

func TestProves(t *testing.T) {
	a, c := square(), hidden()
	isProof(t, a, c, 70, true, 20, 0)
	isProof(t, a, c, 71, false, 20, 0)
	isProof(t, a, c, 0, true, 20, 0)
	// any number may be asked
	isProof(t, a, c, -5, true, 20, 0)
	isProof(t, a, c, math.MinInt, true, 20, 0)
	isProof(t, a, c, math.MaxInt, false, 20, 0)
	// less than the needs proves as much, more than one of them nothing
	isProof(t, a, c, 70, true, 0, 0)
	isProof(t, a, c, 70, true, 19, 0)
	isProof(t, a, c, 70, false, 21, 0)
	isProof(t, a, c, 0, false, 21, 0)
	isProof(t, a, c, 70, false, 20, 1)
	// a number of -1 where water comes
	isProof(t, a, c, 70, false, -1, 0)
	isProof(t, a, c, 70, false, 20, -1)
	// too few numbers, too many, or some that are not from -1 to MaxThick
	isProof(t, a, c, 70, false, 20)
	isProof(t, a, c, 70, false, 20, 0, 0)
	isProof(t, a, c, 70, false)
	for _, n := range []int{-2, 1001, math.MinInt, math.MaxInt} {
		isProof(t, a, c, 70, false, n, 0)
		isProof(t, a, c, 70, false, 20, n)
	}
	isProof(t, a, c, 70, false, make([]int, 1<<20)...)
	// without bundles
	isProof(t, a, api.Coat{}, 0, true)
	isProof(t, a, api.Coat{}, 1, false)
	isProof(t, a, api.Coat{}, 0, false, 0)
}

// A bundle's number counts if it is more than the wear of the link.
func TestProvesByNumbers(t *testing.T) {
	// 2 over 1 over 0, the thickest one above
	c := courses(wholly(-5, 3), wholly(-4, 5), wholly(-3, 8))
	isProof(t, square(), c, 8, true, 8, 8, 0)
	isProof(t, square(), c, 9, false, 8, 8, 0)
	isProof(t, square(), c, 8, false, 8, 7, 0)
	isProof(t, square(), c, 8, false, 8, 9, 0)
	// With a lesser number of 0 the thickness of 0 is what counts, and then that number.
	isProof(t, square(), c, 3, true, 2, 8, 0)
	isProof(t, square(), c, 4, false, 2, 8, 0)
	isProof(t, square(), c, 4, true, 4, 8, 0)
	isProof(t, square(), c, 4, false, 3, 8, 0)
	// The number of 1 allows a number of 0 that is more than the thickness of 1.
	isProof(t, square(), c, 0, true, 7, 7, 0)
	isProof(t, square(), c, 0, false, 8, 7, 0)
	isProof(t, square(), c, 0, false, 6, 4, 1)
}

// Links from a bundle whose number is -1, and links off the roof, show nothing.
func TestProvesPassesOver(t *testing.T) {
	// 0 lies outside of the area, where nothing leads to it.
	c := courses(course(-60, bundle(0, 40, 50, 7)), wholly(-5, 3))
	isProof(t, square(), c, 3, true, -1, 0)
	isProof(t, square(), c, 3, true, 0, 0)
	isProof(t, square(), c, 3, true, 1000, 0)
	// Both have no link but off the roof: any numbers will do.
	c = courses(course(45, bundle(0, 40, 50, 7)), course(50, bundle(0, 40, 50, 7)))
	isProof(t, square(), c, 0, true, -1, 1000)
	isProof(t, square(), c, 1, false, -1, 1000)
	// In a hole 1 lies on 0: no water comes there, and what came would drip away.
	c = courses(wholly(-5, 3), course(10, bundle(10, 10, 10, 5)))
	isProof(t, square(box(10, 10, 20, 20)), c, 3, true, 0, -1)
	isProof(t, square(box(10, 10, 20, 20)), c, 3, true, 0, 900)
	// 0 is wet, and passed over if its number is -1, but then the rain's link to it is broken.
	isProof(t, square(), courses(wholly(-5, 3)), 900, false, -1)
}

// wantProves is as the chapter says it.
func wantProves(list []api.Link, count, wear int, l []int) bool {
	if len(l) != count || slices.ContainsFunc(l, func(n int) bool { return n < -1 || n > 1000 }) {
		return false
	}
	for _, x := range list {
		if x.To == off || x.From != rain && l[x.From] == -1 {
			continue
		}
		m := x.Wear
		if x.From != rain && l[x.From] > m {
			m = l[x.From]
		}
		if x.To == batten && wear > m || x.To >= 0 && (l[x.To] == -1 || l[x.To] > m) {
			return false
		}
	}
	return true
}

func TestProvesOfRandomLists(t *testing.T) {
	rng := rand.New(rand.NewSource(77))
	counts := map[bool]int{}
	for i := range 300 {
		size := []int{8, 15, 40}[i%3]
		a, c := randomArea(rng, size), randomCoat(rng, size, 3)
		list, l := links(t, a, c), needs(t, a, c)
		for range 20 {
			wear, guess := between(rng, -1, 9), slices.Clone(l)
			for range rng.Intn(3) {
				if len(guess) > 0 {
					guess[rng.Intn(len(guess))] = between(rng, -1, 9)
				}
			}
			want := wantProves(list, len(l), wear, guess)
			isProof(t, a, c, wear, want, guess...)
			counts[want]++
		}
		if t.Failed() {
			t.FailNow()
		}
	}
	if counts[true] < 500 || counts[false] < 500 {
		t.Error(counts)
	}
}

func TestProvesErrors(t *testing.T) {
	for _, x := range wrongOnes() {
		for _, l := range [][]int{{0, 0}, {-2}, nil} {
			if yes, e := run.Proves(x.a, x.c, 1, l); e != x.want || yes {
				t.Error(x, l, yes, e)
			}
		}
	}
}
