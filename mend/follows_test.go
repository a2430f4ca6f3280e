package mend_test

import (
	"math/rand"
	"slices"
	"testing"

	"thatch/api"
	"thatch/mend"
)

// P8.6 (kept), P8.7 (proved).

// luckily does a plan while each year takes no more than is stated, and reports whether all slopes are kept.
func luckily(rng *rand.Rand, w api.Works, p [][]int) bool {
	thick := now(w)
	for year, r := range p {
		real := copyWorks(w)
		for i, s := range w.Slopes {
			if len(s.Takes) > 0 {
				real.Slopes[i].Takes = []int{rng.Intn(s.Takes[year%len(s.Takes)] + 1)}
			}
		}
		left, _, kept := lived(real, 0, thick, r)
		if !kept {
			return false
		}
		thick = left
	}
	return true
}

func TestKeptWhateverIsTaken(t *testing.T) {
	rng := rand.New(rand.NewSource(138))
	kept := 0
	for range 1500 {
		w := randomWorks(rng, 3, 3, 10)
		p, _, found, e := mend.Cheapest(w)
		if e != api.OK || !found {
			continue
		}
		if thick, _, at := askFollow(t, w, p); at != -1 || len(thick) != w.Years {
			t.Fatal(w, p, thick, at)
		}
		for range 5 {
			if !luckily(rng, w, p) {
				t.Fatal(w, p)
			}
		}
		kept++
	}
	if kept < 300 {
		t.Error(kept)
	}
}

// No plan that is chosen at random, and keeps all slopes, costs less.
func TestNoPlanCostsLess(t *testing.T) {
	rng := rand.New(rand.NewSource(139))
	kept, more := 0, 0
	for range 600 {
		w := randomWorks(rng, 3, 3, 6)
		_, least, found, e := mend.Cheapest(w)
		for range 30 {
			p := randomPlan(rng, w)
			_, cost, at := askFollow(t, w, p)
			if e != api.OK || at != -1 {
				continue
			}
			if !found || cost < least {
				t.Fatal(w, p, cost, least)
			}
			kept++
			if cost > least {
				more++
			}
		}
	}
	if kept < 1000 || more < 1000 {
		t.Error(kept, more)
	}
}

// easier are works in which it is easier to keep all than in others, each in its own way.
func easier(rng *rand.Rand, w api.Works) []api.Works {
	i := rng.Intn(len(w.Slopes))
	change := func(do func(w *api.Works)) api.Works {
		c := copyWorks(w)
		do(&c)
		return c
	}
	return []api.Works{
		change(func(w *api.Works) { w.Slopes[i].Now = between(rng, w.Slopes[i].Now, w.Slopes[i].Full) }),
		change(func(w *api.Works) { w.Slopes[i].Need = rng.Intn(w.Slopes[i].Need + 1) }),
		change(func(w *api.Works) {
			for k, n := range w.Slopes[i].Takes {
				w.Slopes[i].Takes[k] = rng.Intn(n + 1)
			}
		}),
		change(func(w *api.Works) { w.Crafts = append(w.Crafts, randomCraft(rng, 9)) }),
		change(func(w *api.Works) {
			w.Crafts = slices.Insert(w.Crafts, rng.Intn(len(w.Crafts)+1), randomCraft(rng, 9))
		}),
	}
}

func TestEasierIsNoDearer(t *testing.T) {
	rng := rand.New(rand.NewSource(140))
	cheaper, possible := [5]int{}, [5]int{}
	for range 1500 {
		w := randomWorks(rng, 2, 3, 7)
		_, cost, found, e := mend.Cheapest(w)
		if e != api.OK {
			continue
		}
		for i, c := range easier(rng, w) {
			_, less, ok, e := mend.Cheapest(c)
			if e == api.ErrLimit {
				continue
			}
			if e != api.OK || found && (!ok || less > cost) {
				t.Fatal(w, c, cost, found, less, ok, e)
			}
			if found && less < cost {
				cheaper[i]++
			}
			if !found && ok {
				possible[i]++
			}
		}
	}
	if slices.Min(cheaper[:]) < 15 || slices.Min(possible[:]) < 15 {
		t.Error(cheaper, possible)
	}
}

func TestMoreHandsAreNoDearer(t *testing.T) {
	rng := rand.New(rand.NewSource(145))
	cheaper, possible := 0, 0
	for range 1500 {
		w := works(between(rng, 2, 6), 5, 0, crafts(randomCraft(rng, 9), add(4, 1)))
		for range between(rng, 2, 3) {
			w.Slopes = append(w.Slopes, slope(8, 3, 9, 1, rng.Intn(4), 3))
		}
		_, cost, found := askCheapest(t, w)
		for w.Hands < api.MaxSlopes {
			w.Hands++
			_, less, ok, e := mend.Cheapest(w)
			if e != api.OK {
				break
			}
			if found && (!ok || less > cost) {
				t.Fatal(w, cost, less, ok)
			}
			if found && less < cost {
				cheaper++
			}
			if !found && ok {
				possible++
			}
			cost, found = less, ok
		}
	}
	if cheaper < 100 || possible < 100 {
		t.Error(cheaper, possible)
	}
}

// What a plan costs is what its years cost; what is left to be paid on the way is what Least says.
func TestPaidYearByYear(t *testing.T) {
	rng := rand.New(rand.NewSource(141))
	years := 0
	for range 800 {
		w := randomWorks(rng, 3, 3, 8)
		p, cost, found, e := mend.Cheapest(w)
		if e != api.OK || !found {
			continue
		}
		thick, sum, _ := askFollow(t, w, p)
		if sum != cost {
			t.Fatal(w, p, cost, sum)
		}
		at := now(w)
		for year, r := range p {
			if left, ok := askLeast(t, w, year, at); left != cost || !ok {
				t.Fatal(w, p, year, at, left, cost)
			}
			_, paid, _ := lived(w, year, at, r)
			cost -= paid
			at = thick[year]
			years++
		}
		if left, ok := askLeast(t, w, w.Years, at); cost != 0 || left != 0 || !ok {
			t.Fatal(w, p, cost, left, ok)
		}
	}
	if years < 500 {
		t.Error(years)
	}
}

// The values are what Least says of each state.
func TestValuesAreLeast(t *testing.T) {
	rng := rand.New(rand.NewSource(142))
	for range 300 {
		w := randomWorks(rng, 2, 3, 6)
		l, e := mend.Values(w)
		if e != api.OK {
			continue
		}
		if !slices.IsSortedFunc(l, compareWorths) {
			t.Fatal(w, l)
		}
		for _, x := range l {
			cost, found := askLeast(t, w, x.Year, x.Thick)
			if found && cost != x.Cost || !found && x.Cost != api.MaxPaid {
				t.Fatal(w, x, cost, found)
			}
		}
	}
}

func TestValuesProve(t *testing.T) {
	rng := rand.New(rand.NewSource(143))
	seen := map[bool]int{}
	for range 1500 {
		w := randomWorks(rng, 4, 4, 12)
		l, e := mend.Values(w)
		if e != api.OK {
			continue
		}
		_, cost, found := askCheapest(t, w)
		if !found {
			cost = api.MaxPaid
		}
		if !askProves(t, w, cost, l) || !askProves(t, w, cost-rng.Intn(9), l) || askProves(t, w, cost+1, l) {
			t.Fatal(w, cost, found, l)
		}
		seen[found]++
	}
	if seen[true] < 300 || seen[false] < 300 {
		t.Error(seen)
	}
	for _, w := range []api.Works{full(), pair(1), pair(2), works(40, 1000000, 4, crafts(strip(10000), add(1, 10000)), slice(4, slope(500, 500, 1000, 1000, 500))...)} {
		_, cost, found := askCheapest(t, w)
		if l := askValues(t, w); !found || !askProves(t, w, cost, l) || askProves(t, w, cost+1, l) {
			t.Error(w, cost, found)
		}
	}
}

// No list that Proves accepts shows more than what it costs.
func TestNoListProvesMore(t *testing.T) {
	rng := rand.New(rand.NewSource(144))
	proved := 0
	for range 3000 {
		w := fewWorks(rng)
		_, cost, found := tried(w, 0, now(w))
		if !found {
			cost = api.MaxPaid
		}
		l := misled(rng, askValues(t, w))
		if askProves(t, w, cost+1, l) {
			t.Fatal(w, cost, l)
		}
		if askProves(t, w, cost-1, l) {
			proved++
		}
	}
	if proved < 500 {
		t.Error(proved)
	}
}
