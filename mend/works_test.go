package mend_test

import (
	"math/rand"
	"slices"
	"testing"

	"thatch/api"
	"thatch/mend"
)

// Works for the tests, and what can be done with them.

func slope(now, need, full, size int, takes ...int) api.Slope {
	return api.Slope{Now: now, Need: need, Full: full, Size: size, Takes: takes}
}

func add(more, price int) api.Craft { return api.Craft{Add: more, Price: price} }

func strip(price int) api.Craft { return api.Craft{Price: price, Strip: true} }

func crafts(list ...api.Craft) []api.Craft { return list }

func works(years, visit, hands int, crafts []api.Craft, slopes ...api.Slope) api.Works {
	return api.Works{Slopes: slopes, Crafts: crafts, Years: years, Visit: visit, Hands: hands}
}

func plan(rows ...[]int) [][]int { return rows }

func row(numbers ...int) []int { return numbers }

func worth(year, cost int, thick ...int) api.Worth {
	return api.Worth{Year: year, Thick: thick, Cost: cost}
}

// example is the works of the document's examples.
func example() api.Works {
	return works(3, 10, 1, crafts(add(20, 7), strip(30)), slope(50, 30, 60, 2, 15))
}

const exampleText = "works 3 10 1\nslope 50 30 60 2 15\nadd 20 7\nstrip 30\n"

func exampleValues() []api.Worth {
	return []api.Worth{worth(0, 48, 50), worth(1, 48, 35), worth(1, 24, 45), worth(2, 24, 30), worth(2, 24, 40), worth(2, 0, 45)}
}

// changed is the works of the examples with something else in them.
func changed(do func(w *api.Works)) api.Works {
	w := example()
	do(&w)
	return w
}

// pair is two slopes that lose the same, with a dear visit.
func pair(hands int) api.Works {
	return works(3, 100, hands, crafts(add(10, 1), strip(3)), slope(40, 20, 50, 2, 10), slope(30, 20, 40, 5, 10))
}

// full has just MaxStates states, of 31 years.
func full() api.Works {
	return works(30, 0, 1, crafts(add(1, 1), add(2, 1), add(7, 1)), slope(0, 0, 83, 1))
}

// fuller has one state more, of 32 years.
func fuller() api.Works {
	return works(31, 0, 1, crafts(add(1, 1), add(2, 1), add(6, 1)), slope(0, 0, 82, 1))
}

func copyWorks(w api.Works) api.Works {
	w.Slopes, w.Crafts = slices.Clone(w.Slopes), slices.Clone(w.Crafts)
	for i, s := range w.Slopes {
		w.Slopes[i].Takes = slices.Clone(s.Takes)
	}
	return w
}

func sameSlope(a, b api.Slope) bool {
	return a.Now == b.Now && a.Need == b.Need && a.Full == b.Full && a.Size == b.Size && slices.Equal(a.Takes, b.Takes)
}

func sameWorks(a, b api.Works) bool {
	return slices.EqualFunc(a.Slopes, b.Slopes, sameSlope) && slices.Equal(a.Crafts, b.Crafts) &&
		a.Years == b.Years && a.Visit == b.Visit && a.Hands == b.Hands
}

func sameLists(a, b [][]int) bool { return slices.EqualFunc(a, b, slices.Equal[[]int]) }

func sameWorths(a, b []api.Worth) bool {
	return slices.EqualFunc(a, b, func(x, y api.Worth) bool {
		return x.Year == y.Year && x.Cost == y.Cost && slices.Equal(x.Thick, y.Thick)
	})
}

// between is a random number from low to high.
func between(rng *rand.Rand, low, high int) int { return low + rng.Intn(high-low+1) }

// some returns up to most random numbers from 0 to high.
func some(rng *rand.Rand, most, high int) []int {
	var list []int
	for range rng.Intn(most + 1) {
		list = append(list, rng.Intn(high+1))
	}
	return list
}

func randomSlope(rng *rand.Rand, most int) api.Slope {
	full := between(rng, 1, most)
	return slope(rng.Intn(full+1), rng.Intn(full/2+1), full, between(rng, 1, 5), some(rng, 3, 1+most/3)...)
}

func randomCraft(rng *rand.Rand, most int) api.Craft {
	if rng.Intn(3) == 0 {
		return strip(rng.Intn(9))
	}
	return add(rng.Intn(most+1), rng.Intn(6))
}

// randomWorks has up to so many slopes, crafts and years. Its thicknesses are up to 8, so that many rows come to the same, or up to 40.
func randomWorks(rng *rand.Rand, slopes, most, years int) api.Works {
	w := works(rng.Intn(years+1), []int{0, rng.Intn(4), rng.Intn(30)}[rng.Intn(3)], rng.Intn(min(slopes, 3)+2), nil)
	thick := []int{8, 40}[rng.Intn(2)]
	for range between(rng, 1, slopes) {
		w.Slopes = append(w.Slopes, randomSlope(rng, thick))
	}
	for range rng.Intn(most + 1) {
		w.Crafts = append(w.Crafts, randomCraft(rng, thick))
	}
	return w
}

// fewWorks are works with so few plans that all of them can be tried.
func fewWorks(rng *rand.Rand) api.Works {
	if rng.Intn(2) == 0 {
		return randomWorks(rng, 1, 3, 4)
	}
	return randomWorks(rng, 2, 2, 3)
}

func randomRow(rng *rand.Rand, w api.Works) []int {
	list := allRows(w)
	return slices.Clone(list[rng.Intn(len(list))])
}

func randomPlan(rng *rand.Rand, w api.Works) [][]int {
	var list [][]int
	for range w.Years {
		list = append(list, randomRow(rng, w))
	}
	return list
}

// askCheapest returns the plan, its cost, and whether there is one.
func askCheapest(t *testing.T, w api.Works) ([][]int, int, bool) {
	t.Helper()
	p, cost, found, e := mend.Cheapest(w)
	if e != api.OK {
		t.Fatal(w, e)
	}
	return p, cost, found
}

func askLeast(t *testing.T, w api.Works, year int, thick []int) (int, bool) {
	t.Helper()
	cost, found, e := mend.Least(w, year, thick)
	if e != api.OK {
		t.Fatal(w, year, thick, e)
	}
	return cost, found
}

func askValues(t *testing.T, w api.Works) []api.Worth {
	t.Helper()
	l, e := mend.Values(w)
	if e != api.OK {
		t.Fatal(w, e)
	}
	return l
}

func askProves(t *testing.T, w api.Works, least int, l []api.Worth) bool {
	t.Helper()
	yes, e := mend.Proves(w, least, l)
	if e != api.OK {
		t.Fatal(w, least, l, e)
	}
	return yes
}

func askFollow(t *testing.T, w api.Works, p [][]int) (thick [][]int, cost, at int) {
	t.Helper()
	thick, cost, at, e := mend.Follow(w, p)
	if e != api.OK {
		t.Fatal(w, p, e)
	}
	return thick, cost, at
}
