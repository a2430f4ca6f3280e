package ridge_test

import (
	"math/rand"
	"slices"
	"testing"

	"thatch/api"
	"thatch/ridge"
)

// P6.5 (Plan). That it returns the error of the rods is tested with CheckRods.

func TestPlan(t *testing.T) {
	for _, c := range []struct {
		name string
		r    api.Rods
		want int
	}{
		{"the example", exampleRods(), 3},
		{"the example, without a saw", rods(10, 0, cut(5, 2), cut(3, 2), cut(2, 1)), 2},
		{"no cuts", rods(10, 1), 0},
		{"none wanted", rods(10, 1, cut(5, 0), cut(10, 0)), 0},
		{"some wanted, some not", rods(10, 1, cut(5, 0), cut(10, 2), cut(1, 0)), 2},
		{"one", rods(1, 0, cut(1, 1)), 1},
		{"12 of a whole rod", rods(100000, 100000, cut(100000, 12)), 12},
		{"12 on one rod", rods(12, 0, cut(1, 12)), 1},
		{"12 on one rod, and the saw", rods(23, 1, cut(1, 12)), 1},
		{"12, but for a bit", rods(22, 1, cut(1, 12)), 2},
		{"a saw that takes more than a rod", rods(10, 100, cut(1, 3)), 3},
		{"the same length twice", rods(10, 0, cut(5, 3), cut(5, 3)), 3},
		// With the longest ones first there are 6 3, 5 2 2 and 2.
		{"not the longest ones first", rods(10, 0, cut(6, 1), cut(5, 1), cut(3, 1), cut(2, 3)), 2},
		// With the rod first that is full of most cuts there are 6 2 2, 8, 8 and 3.
		{"not the fullest rod first", rods(10, 0, cut(8, 2), cut(6, 1), cut(3, 1), cut(2, 2)), 3},
		{"8 cuts", rods(100, 2, cut(48, 2), cut(49, 2), cut(32, 1), cut(31, 1), cut(33, 1), cut(20, 2), cut(18, 2), cut(98, 1)), 5},
	} {
		if n := askPlan(t, c.r); n != c.want || n != fewestRods(c.r) {
			t.Errorf("%s: %d, %d", c.name, n, fewestRods(c.r))
		}
	}
}

func TestPlanOfExample(t *testing.T) {
	plan, e := ridge.Plan(exampleRods())
	slices.SortFunc(plan, slices.Compare)
	if e != api.OK || len(plan) != 3 || !slices.Equal(plan[0], []int{0, 1}) || !slices.Equal(plan[1], []int{0, 1}) || !slices.Equal(plan[2], []int{2}) {
		t.Error(plan, e)
	}
}

func TestPlanRandom(t *testing.T) {
	rng := rand.New(rand.NewSource(83))
	count := map[int]int{}
	for range 3000 {
		r := someRods(rng)
		n := askPlan(t, r)
		if n != fewestRods(r) {
			t.Fatal(r, n, fewestRods(r))
		}
		count[n]++
	}
	for n := range 8 {
		if count[n] < 30 {
			t.Error(n, count)
		}
	}
}

// 12 cuts that fill rods without a rest are hard to put together again.
func TestPlanOfFullRods(t *testing.T) {
	rng := rand.New(rand.NewSource(84))
	for range 300 {
		r := rods(1000, rng.Intn(10))
		count := between(rng, 1, 4)
		for range count {
			// Two cuts of each of the rods that are to be found again, which make it full.
			a := between(rng, 1, r.Stock-r.Kerf-1)
			r.Cuts = append(r.Cuts, cut(a, 1), cut(r.Stock-r.Kerf-a, 1))
		}
		if n := askPlan(t, r); n > count || n != fewestRods(r) {
			t.Fatal(r, n, count)
		}
	}
}
