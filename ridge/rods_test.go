package ridge_test

import (
	"math"
	"math/rand"
	"slices"
	"testing"

	"thatch/api"
	"thatch/ridge"
)

// P6.4 (CheckRods, Bound, Lower).

func TestCheckRods(t *testing.T) {
	short := slices.Repeat([]api.Cut{cut(1, 1)}, 9)
	for _, c := range []struct {
		name string
		r    api.Rods
		want api.Errno
	}{
		{"as they are", exampleRods(), api.OK},
		{"no cuts", rods(10, 1), api.OK},
		{"nothing", api.Rods{}, api.ErrArg},
		{"stock -1", rods(-1, 1), api.ErrArg},
		{"stock 0", rods(0, 0), api.ErrArg},
		{"stock 1", rods(1, 0, cut(1, 12)), api.OK},
		{"stock 100000", rods(100000, 0, cut(100000, 12)), api.OK},
		{"stock 100001", rods(100001, 0), api.ErrArg},
		{"the greatest stock", rods(math.MaxInt, 0), api.ErrArg},
		{"kerf -1", rods(10, -1), api.ErrArg},
		{"kerf 0", rods(10, 0, cut(3, 1)), api.OK},
		{"kerf above stock", rods(10, 11, cut(3, 2)), api.OK},
		{"kerf 100000", rods(10, 100000, cut(3, 2)), api.OK},
		{"kerf 100001", rods(10, 100001), api.ErrArg},
		{"the least kerf", rods(10, math.MinInt), api.ErrArg},
		{"8 cuts", rods(10, 1, short[:8]...), api.OK},
		{"9 cuts", rods(10, 1, short...), api.ErrLimit},
		{"9 cuts that are none", rods(10, 1, make([]api.Cut, 9)...), api.ErrLimit},
		{"9 cuts, stock 0", rods(0, 1, short...), api.ErrArg},
		{"9 cuts, kerf -1", rods(10, -1, short...), api.ErrArg},
		{"length -1", rods(10, 1, cut(-1, 1)), api.ErrArg},
		{"length 0", rods(10, 1, cut(0, 1)), api.ErrArg},
		{"length 1", rods(10, 1, cut(1, 1)), api.OK},
		{"length as stock", rods(10, 1, cut(10, 1)), api.OK},
		{"length above stock", rods(10, 1, cut(11, 1)), api.ErrScope},
		{"length above stock, none wanted", rods(10, 1, cut(11, 0)), api.ErrScope},
		{"length 100000", rods(10, 1, cut(100000, 1)), api.ErrScope},
		{"length 100001", rods(10, 1, cut(100001, 1)), api.ErrArg},
		{"many -1", rods(10, 1, cut(5, -1)), api.ErrArg},
		{"many 0", rods(10, 1, cut(5, 0)), api.OK},
		{"many 12", rods(10, 1, cut(5, 12)), api.OK},
		{"many 13", rods(10, 1, cut(5, 13)), api.ErrArg},
		{"the greatest many", rods(10, 1, cut(5, math.MaxInt)), api.ErrArg},
		{"12 together", rods(10, 1, cut(5, 6), cut(4, 0), cut(3, 6)), api.OK},
		{"13 together", rods(10, 1, cut(5, 6), cut(4, 1), cut(3, 6)), api.ErrLimit},
		{"24 together", rods(10, 1, cut(5, 12), cut(3, 12)), api.ErrLimit},
		{"13 together, and a bad cut", rods(10, 1, cut(5, 6), cut(3, 7), cut(0, 0)), api.ErrArg},
		{"13 together, and one too long", rods(10, 1, cut(11, 6), cut(3, 7)), api.ErrLimit},
		{"one too long, and a bad cut", rods(10, 1, cut(11, 1), cut(3, -1)), api.ErrArg},
		{"a bad cut, and one too long", rods(10, 1, cut(3, -1), cut(11, 1)), api.ErrArg},
		{"the last one too long", rods(10, 1, cut(5, 1), cut(11, 1)), api.ErrScope},
	} {
		if e := ridge.CheckRods(c.r); e != c.want {
			t.Errorf("%s: %d, not %d", c.name, e, c.want)
		}
		if plan, e := ridge.Plan(c.r); e != c.want || e != api.OK && plan != nil {
			t.Errorf("%s: Plan %v %d", c.name, plan, e)
		}
		if n, e := ridge.Bound(c.r, make([]int, len(c.r.Cuts))); e != c.want || n != 0 {
			t.Errorf("%s: Bound %d %d", c.name, n, e)
		}
		if n, weights, e := ridge.Lower(c.r); e != c.want || e != api.OK && (n != 0 || weights != nil) {
			t.Errorf("%s: Lower %d %v %d", c.name, n, weights, e)
		}
	}
}

func TestBound(t *testing.T) {
	for _, c := range []struct {
		name    string
		r       api.Rods
		weights []int
		want    int
		e       api.Errno
	}{
		{"all the same", exampleRods(), []int{1, 1, 1}, 2, api.OK},
		{"the first twice", exampleRods(), []int{2, 1, 1}, 3, api.OK},
		{"none", exampleRods(), []int{0, 0, 0}, 0, api.OK},
		{"one alone", exampleRods(), []int{0, 0, 9}, 1, api.OK},
		{"two, a rod each", exampleRods(), []int{1, 0, 0}, 2, api.OK},
		{"two on one rod", exampleRods(), []int{0, 1, 0}, 1, api.OK},
		{"the greatest", exampleRods(), []int{1000000, 1000000, 1000000}, 2, api.OK},
		{"one too great", exampleRods(), []int{1, 1, 1000001}, 0, api.ErrArg},
		{"one below 0", exampleRods(), []int{-1, 1, 1}, 0, api.ErrArg},
		{"the least and the greatest", exampleRods(), []int{math.MinInt, 1, math.MaxInt}, 0, api.ErrArg},
		{"too few", exampleRods(), []int{1, 1}, 0, api.ErrArg},
		{"too many", exampleRods(), []int{1, 1, 1, 1}, 0, api.ErrArg},
		{"no list", exampleRods(), nil, 0, api.ErrArg},
		{"no cuts", rods(10, 1), nil, 0, api.OK},
		{"no cuts, a weight", rods(10, 1), []int{0}, 0, api.ErrArg},
		{"none wanted", rods(10, 1, cut(5, 0)), []int{7}, 0, api.OK},
		{"what is not wanted does not count", rods(10, 0, cut(5, 4), cut(5, 0)), []int{1, 1000}, 2, api.OK},
		{"what is wanted once is held once", rods(10, 0, cut(5, 1), cut(10, 3)), []int{5, 6}, 4, api.OK},
		{"no saw behind the last one", rods(11, 1, cut(5, 2)), []int{1}, 1, api.OK},
		{"a saw between two", rods(10, 1, cut(5, 2)), []int{1}, 2, api.OK},
		{"not rounded up", rods(10, 0, cut(5, 12)), []int{3}, 6, api.OK},
		{"rounded up", rods(10, 0, cut(5, 11)), []int{3}, 6, api.OK},
		{"the greatest of all", rods(10, 10, cut(10, 12)), []int{1000000}, 12, api.OK},
		{"all on one rod", rods(12, 0, cut(1, 12)), []int{1000000}, 1, api.OK},
		{"bad rods", rods(10, -1, cut(5, 1)), []int{-1}, 0, api.ErrArg},
		{"too long, and bad weights", rods(10, 1, cut(11, 1)), []int{-1, 2}, 0, api.ErrScope},
	} {
		if n, e := ridge.Bound(c.r, c.weights); n != c.want || e != c.e {
			t.Errorf("%s: %d %d", c.name, n, e)
		}
	}
}

func randomWeights(rng *rand.Rand, r api.Rods) []int {
	most := []int{1, 3, 20, api.MaxHeft}[rng.Intn(4)]
	var list []int
	for range r.Cuts {
		list = append(list, between(rng, 0, most))
	}
	return list
}

func TestBoundRandom(t *testing.T) {
	rng := rand.New(rand.NewSource(81))
	count := 0
	for range 2000 {
		r := someRods(rng)
		weights := randomWeights(rng, r)
		n, e := ridge.Bound(r, weights)
		if e != api.OK || n != boundOf(r, weights) {
			t.Fatal(r, weights, n, e, boundOf(r, weights))
		}
		if n > 2 {
			count++
		}
	}
	if count < 300 {
		t.Error(count)
	}
}

func TestLower(t *testing.T) {
	for _, c := range []struct {
		name    string
		r       api.Rods
		want    int
		weights []int
	}{
		{"the example", exampleRods(), 3, []int{2, 1, 1}},
		{"no cuts", rods(10, 1), 0, nil},
		{"none wanted", rods(10, 0, cut(5, 0), cut(10, 0)), 0, []int{0, 1}},
		{"a rod each", rods(10, 0, cut(10, 12)), 12, []int{1}},
		{"halves", rods(10, 0, cut(5, 12)), 6, []int{1}},
		{"thirds, and a saw", rods(11, 1, cut(3, 12)), 4, []int{1}},
		{"too short for any fold", rods(100, 0, cut(4, 12)), 0, []int{0}},
		{"long enough for one fold more", rods(21, 0, cut(1, 12)), 0, []int{0}},
		{"just long enough for the last one", rods(100, 0, cut(5, 12)), 1, []int{1}},
		{"above a half, which only a later fold tells", rods(100, 0, cut(51, 1), cut(50, 1), cut(49, 1)), 2, []int{1, 1, 0}},
	} {
		if n, weights, e := ridge.Lower(c.r); e != api.OK || n != c.want || !slices.Equal(weights, c.weights) {
			t.Errorf("%s: %d %v %d", c.name, n, weights, e)
		}
	}
}

func TestLowerRandom(t *testing.T) {
	rng := rand.New(rand.NewSource(82))
	first := map[int]int{}
	for range 400 {
		r := someRods(rng)
		most, best, fold := -1, []int(nil), 0
		for k := range 20 {
			var weights []int
			for _, c := range r.Cuts {
				weights = append(weights, (k+1)*(c.Length+r.Kerf)/(r.Stock+r.Kerf))
			}
			if n := boundOf(r, weights); n > most {
				most, best, fold = n, weights, k+1
			}
		}
		if n, weights, e := ridge.Lower(r); e != api.OK || n != most || !slices.Equal(weights, best) {
			t.Fatal(r, n, weights, e, most, best)
		}
		first[fold]++
	}
	if len(first) < 6 {
		t.Error(first)
	}
}

// The last fold may be the one that is meant.
func TestLowerOfLastFold(t *testing.T) {
	// Cuts of 1/20 weigh nothing in all folds ahead of the last one.
	r := rods(2000, 0, cut(100, 3), cut(99, 3))
	if n, weights, e := ridge.Lower(r); e != api.OK || n != 1 || !slices.Equal(weights, []int{1, 0}) {
		t.Error(n, weights, e)
	}
}
