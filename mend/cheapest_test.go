package mend_test

import (
	"math"
	"math/rand"
	"slices"
	"testing"

	"thatch/api"
	"thatch/mend"
)

// P8.2 (Cheapest, Least).

// planned is works, and the plan that keeps all slopes and costs least.
type planned struct {
	name string
	w    api.Works
	plan [][]int
	cost int
}

func planAll(t *testing.T, list []planned) {
	t.Helper()
	for _, c := range list {
		p, cost, found := askCheapest(t, c.w)
		if !sameLists(p, c.plan) || cost != c.cost || !found {
			t.Error(c.name, p, cost, found)
		}
	}
}

func TestCheapest(t *testing.T) {
	planAll(t, []planned{
		{"the example", example(), plan(row(-1), row(0), row(0)), 48},
		{"nothing is to be done", changed(func(w *api.Works) { w.Slopes[0].Need = 5 }), plan(row(-1), row(-1), row(-1)), 0},
		{"no years", changed(func(w *api.Works) { w.Years = 0 }), nil, 0},
		{"no years, thinner than needed", works(0, 10, 0, nil, slope(0, 100, 100, 1)), nil, 0},
		{"no crafts", works(2, 10, 4, nil, slope(9, 0, 9, 1, 5)), plan(row(-1), row(-1)), 0},
		{"once anew is cheaper than thrice more", changed(func(w *api.Works) { w.Slopes[0].Takes = []int{0, 20, 45}; w.Slopes[0].Full = 100 }), plan(row(-1), row(-1), row(1)), 70},
		{"from below what is needed", works(2, 10, 1, crafts(add(20, 7), strip(30)), slope(0, 30, 60, 2, 15)), plan(row(1), row(-1)), 70},
		{"as dear as can be", works(40, 1000000, 4, crafts(strip(10000)), slice(4, slope(1, 1, 1, 1000))...), slices.Repeat(plan(row(-1, -1, -1, -1)), 40), 0},
		{"as dear as can be, each year", works(40, 1000000, 4, crafts(strip(10000), add(1, 10000)), slice(4, slope(500, 500, 1000, 1000, 500))...), slices.Repeat(plan(row(0, 0, 0, 0)), 40), 40 * 41000000},
	})
}

// slice is so many slopes that are the same.
func slice(count int, s api.Slope) []api.Slope { return slices.Repeat([]api.Slope{s}, count) }

func TestCheapestVisits(t *testing.T) {
	planAll(t, []planned{
		{"both at once", pair(2), plan(row(-1, -1), row(0, 1), row(-1, -1)), 117},
		{"one hand", pair(1), plan(row(-1, -1), row(-1, 1), row(0, -1)), 217},
	})
	w := pair(1)
	w.Visit = 0
	planAll(t, []planned{{"one hand, no visit", w, plan(row(-1, 0), row(-1, 0), row(0, -1)), 12}})
	w.Slopes[0].Size = 1000
	w.Hands = 2
	w.Visit = 5000
	planAll(t, []planned{{"both at once, though one of them is dear", w, plan(row(-1, -1), row(0, 1), row(-1, -1)), 6015}})
}

// Of plans that cost the same the least one is told.
func TestCheapestIsFirst(t *testing.T) {
	planAll(t, []planned{
		{"the latest year", works(3, 5, 1, crafts(add(10, 1)), slope(30, 10, 40, 1, 10)), plan(row(-1), row(-1), row(0)), 6},
		{"the first one of two crafts", works(1, 5, 1, crafts(strip(2), add(10, 2)), slope(20, 20, 30, 1, 10)), plan(row(0)), 7},
		{"the second one, if it is cheaper", works(1, 5, 1, crafts(strip(3), add(10, 2)), slope(20, 20, 30, 1, 10)), plan(row(1)), 7},
		{"nothing ahead of what costs nothing", works(2, 0, 2, crafts(add(5, 0), strip(0)), slope(20, 0, 30, 1, 10), slope(20, 0, 30, 1, 10)), plan(row(-1, -1), row(-1, -1)), 0},
		{"what costs nothing, as late as can be", works(2, 0, 2, crafts(strip(0), add(20, 0)), slope(20, 10, 30, 1, 10), slope(20, 10, 30, 1, 10)), plan(row(-1, -1), row(0, 0)), 0},
		{"the first slope later", works(2, 0, 1, crafts(add(10, 1)), slope(20, 10, 30, 1, 10), slope(20, 10, 30, 1, 10)), plan(row(-1, 0), row(0, -1)), 2},
	})
}

func TestCheapestNotFound(t *testing.T) {
	for _, w := range []api.Works{
		works(1, 0, 1, nil, slope(40, 30, 60, 1, 20)),
		works(1, 0, 0, crafts(strip(0)), slope(40, 30, 60, 1, 20)),
		works(1, 0, 4, crafts(strip(0), add(1000, 0)), slope(40, 30, 60, 1, 31)),
		works(2, 0, 1, crafts(add(20, 1)), slope(40, 30, 60, 1, 20), slope(40, 30, 60, 1, 20)),
		works(40, 0, 1, crafts(add(11, 1)), slope(40, 30, 60, 1, 11, 11, 12)),
		works(1, 0, 1, nil, slope(29, 30, 60, 1)),
	} {
		if p, cost, found := askCheapest(t, w); found || len(p) > 0 || cost != 0 {
			t.Error(w, p, cost, found)
		}
	}
}

func TestCheapestTried(t *testing.T) {
	rng := rand.New(rand.NewSource(131))
	seen := map[bool]int{}
	for range 1500 {
		w := fewWorks(rng)
		want, least, ok := tried(w, 0, now(w))
		p, cost, found := askCheapest(t, w)
		if !sameLists(p, want) || cost != least || found != ok {
			t.Fatal(w, p, cost, found, want, least, ok)
		}
		seen[found]++
	}
	if seen[true] < 300 || seen[false] < 300 {
		t.Error(seen)
	}
}

// spread makes more states of works: more may be done, for more years, and more is kept.
func spread(w api.Works) api.Works {
	w.Years, w.Hands = 15, 4
	for i := range w.Slopes {
		w.Slopes[i].Need = 0
	}
	return w
}

// The states of larger works are gone through from year to year.
func TestCheapestPaid(t *testing.T) {
	rng := rand.New(rand.NewSource(132))
	seen := map[any]int{}
	for i := range 400 {
		w := randomWorks(rng, 4, 4, 15)
		if i%4 == 0 {
			w = spread(w)
		}
		least, states, ok := paid(w, 0, now(w))
		p, cost, found, e := mend.Cheapest(w)
		if (e == api.ErrLimit) != (states > api.MaxStates) || e != api.OK && (e != api.ErrLimit || found || cost != 0 || len(p) > 0) {
			t.Fatal(w, states, p, cost, found, e)
		}
		if e == api.OK && (cost != least || found != ok) {
			t.Fatal(w, p, cost, found, least, ok)
		}
		seen[e]++
		seen[found]++
	}
	if seen[api.ErrLimit] < 10 || seen[true] < 50 || seen[false] < 50 {
		t.Error(seen)
	}
}

// Of states just MaxStates may be, the first one and those of the end among them.
func TestStatesLimit(t *testing.T) {
	for _, c := range []struct {
		w      api.Works
		states int
		want   api.Errno
	}{
		{full(), 2000, api.OK},
		{fuller(), 2001, api.ErrLimit},
	} {
		if _, states, _ := paid(c.w, 0, now(c.w)); states != c.states {
			t.Error(c.w, states)
		}
		_, _, _, cheapestError := mend.Cheapest(c.w)
		_, valuesError := mend.Values(c.w)
		_, _, leastError := mend.Least(c.w, 0, now(c.w))
		if cheapestError != c.want || valuesError != c.want || leastError != c.want {
			t.Error(c.w, cheapestError, valuesError, leastError)
		}
	}
}

// How many states there are depends on where they begin.
func TestStatesFromElsewhere(t *testing.T) {
	w := fuller()
	for _, c := range []struct{ year, thick int }{{1, 0}, {0, 1}, {0, 82}, {31, 0}} {
		if cost, found := askLeast(t, w, c.year, row(c.thick)); cost != 0 || !found {
			t.Error(c, cost, found)
		}
	}
	w.Slopes[0].Now = 82
	if p, cost, found := askCheapest(t, w); len(p) != 31 || cost != 0 || !found {
		t.Error(p, cost, found)
	}
	if cost, found, e := mend.Least(w, 0, row(0)); cost != 0 || found || e != api.ErrLimit {
		t.Error(cost, found, e)
	}
}

// What rows that do not keep all lead to are no states; what several rows lead to is one.
func TestStatesThatAreOne(t *testing.T) {
	some := crafts(add(1, 1), add(2, 1), add(3, 1), add(4, 1))
	for _, c := range []struct {
		w    api.Works
		want api.Errno
	}{
		{works(40, 0, 4, some, slice(4, slope(0, 0, 1000, 1))...), api.ErrLimit},
		{works(40, 0, 4, some, slice(4, slope(0, 5, 1000, 1))...), api.OK},
		{works(40, 0, 4, some, slice(4, slope(1000, 1000, 1000, 1))...), api.OK},
		{works(40, 0, 4, some, slice(4, slope(0, 0, 1000, 1, 4))...), api.OK},
		{works(40, 0, 0, some, slice(4, slope(0, 0, 1000, 1))...), api.OK},
		{works(1, 0, 4, some, slice(4, slope(0, 0, 1000, 1))...), api.OK},
		{works(2, 0, 4, some, slice(4, slope(0, 0, 1000, 1))...), api.ErrLimit},
	} {
		if _, _, _, e := mend.Cheapest(c.w); e != c.want {
			t.Error(c.w, e)
		}
	}
}

func TestLeast(t *testing.T) {
	two := pair(2)
	for _, c := range []struct {
		w     api.Works
		year  int
		thick []int
		cost  int
		found bool
	}{
		{example(), 0, row(50), 48, true},
		{example(), 0, row(60), 24, true},
		{example(), 0, row(0), 94, true},
		{example(), 1, row(45), 24, true},
		{example(), 1, row(35), 48, true},
		{example(), 2, row(45), 0, true},
		{example(), 2, row(44), 24, true},
		{example(), 2, row(25), 24, true},
		{example(), 2, row(24), 70, true},
		{example(), 3, row(0), 0, true},
		{example(), 3, row(60), 0, true},
		{two, 0, row(40, 30), 117, true},
		{two, 0, row(50, 40), 105, true},
		{two, 1, row(30, 20), 117, true},
		{two, 1, row(50, 40), 0, true},
		{two, 2, row(20, 30), 102, true},
		{two, 2, row(0, 0), 100 + 6 + 15, true},
		{pair(1), 2, row(20, 20), 0, false},
		{pair(1), 2, row(30, 20), 105, true},
		{pair(1), 3, row(0, 0), 0, true},
		{works(1, 0, 1, nil, slope(40, 30, 60, 1, 20)), 0, row(50), 0, true},
		{works(1, 0, 1, nil, slope(40, 30, 60, 1, 20)), 0, row(49), 0, false},
		{works(0, 0, 1, nil, slope(40, 30, 60, 1, 20)), 0, row(0), 0, true},
	} {
		if cost, found := askLeast(t, c.w, c.year, c.thick); cost != c.cost || found != c.found {
			t.Error(c.w, c.year, c.thick, cost, found)
		}
	}
}

func TestLeastErrors(t *testing.T) {
	long := fuller()
	for _, c := range []struct {
		w     api.Works
		year  int
		thick []int
		want  api.Errno
	}{
		{example(), -1, row(50), api.ErrArg},
		{example(), 4, row(50), api.ErrArg},
		{example(), math.MinInt, row(50), api.ErrArg},
		{example(), math.MaxInt, row(50), api.ErrArg},
		{example(), 0, nil, api.ErrArg},
		{example(), 0, row(50, 50), api.ErrArg},
		{example(), 0, row(50, 0, 0, 0, 0), api.ErrArg},
		{example(), 0, row(-1), api.ErrArg},
		{example(), 0, row(61), api.ErrArg},
		{example(), 3, row(61), api.ErrArg},
		{example(), 0, row(math.MinInt), api.ErrArg},
		{example(), 0, row(math.MaxInt), api.ErrArg},
		{pair(1), 0, row(50, 41), api.ErrArg},
		{pair(1), 0, row(50), api.ErrArg},
		{long, 0, row(0), api.ErrLimit},
		{long, 0, row(83), api.ErrArg},
		{long, 32, row(0), api.ErrArg},
		{changed(func(w *api.Works) { w.Slopes = make([]api.Slope, 5) }), -1, nil, api.ErrLimit},
	} {
		if cost, found, e := mend.Least(c.w, c.year, c.thick); e != c.want || cost != 0 || found {
			t.Error(c.w, c.year, c.thick, cost, found, e)
		}
	}
}

func TestLeastTried(t *testing.T) {
	rng := rand.New(rand.NewSource(133))
	seen := map[bool]int{}
	for range 3000 {
		w := fewWorks(rng)
		year := rng.Intn(w.Years + 1)
		var thick []int
		for _, s := range w.Slopes {
			thick = append(thick, rng.Intn(s.Full+1))
		}
		_, least, ok := tried(w, year, thick)
		cost, found := askLeast(t, w, year, thick)
		if cost != least || found != ok {
			t.Fatal(w, year, thick, cost, found, least, ok)
		}
		seen[found]++
	}
	if seen[true] < 300 || seen[false] < 300 {
		t.Error(seen)
	}
}
