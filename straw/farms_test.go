package straw_test

import (
	"math/rand"
	"slices"
	"strconv"
	"testing"

	"thatch/api"
	"thatch/straw"
)

// Farms, stores and chores for the tests.

func span(low, high int) api.Span { return api.Span{Low: low, High: high} }

// parts takes fields and loads by twos.
func parts(n ...int) []api.Portion {
	var list []api.Portion
	for i := 0; i < len(n); i += 2 {
		list = append(list, api.Portion{Plot: n[i], Loads: n[i+1]})
	}
	return list
}

const farmText = "farm 150\nfield fen reed 4 10 12 2 200 300 50\nfield hill straw 2 5 9 1 100 140 20\n"

// farm is the farm of the document's examples.
func farm() api.Farm {
	return api.Farm{Dry: 150, Plots: []api.Plot{
		{Name: "fen", Crop: api.CrReed, Size: 4, Yield: span(10, 12), Rest: 2, Wet: span(200, 300), Cost: 50},
		{Name: "hill", Crop: api.CrStraw, Size: 2, Yield: span(5, 9), Rest: 1, Wet: span(100, 140), Cost: 20},
	}}
}

// reeds has three fields of reed that can be cut each year, and whose loads are dry.
func reeds() api.Farm {
	f := api.Farm{Dry: 100}
	for _, name := range []string{"a", "b", "c"} {
		f.Plots = append(f.Plots, api.Plot{Name: name, Crop: api.CrReed, Size: 100, Yield: span(0, 1000), Rest: 1, Wet: span(50, 100)})
	}
	return f
}

var year = api.Chore{Kind: api.ChYear}

func cut(plot, loads int, name string) api.Chore {
	return api.Chore{Kind: api.ChCut, Plot: plot, Loads: loads, Name: name}
}

func dry(name string, days, low, high int) api.Chore {
	return api.Chore{Kind: api.ChDry, Name: name, Days: days, Rain: span(low, high)}
}

func comb(name string, loads int) api.Chore {
	return api.Chore{Kind: api.ChComb, Name: name, Loads: loads}
}

func join(name, other string) api.Chore {
	return api.Chore{Kind: api.ChJoin, Name: name, Other: other}
}

func bind(name, other string, per int) api.Chore {
	return api.Chore{Kind: api.ChBind, Name: name, Other: other, Per: per}
}

func use(name string, bundles int) api.Chore {
	return api.Chore{Kind: api.ChUse, Name: name, Loads: bundles}
}

func rot(name string) api.Chore { return api.Chore{Kind: api.ChRot, Name: name} }

func years(n int) []api.Chore { return slices.Repeat([]api.Chore{year}, n) }

// begin is a new store.
func begin(t *testing.T, f api.Farm) api.Store {
	t.Helper()
	s, e := straw.New(f)
	if e != api.OK {
		t.Fatal(e)
	}
	return s
}

// after is the store behind chores that have no error.
func after(t *testing.T, f api.Farm, l ...api.Chore) api.Store {
	t.Helper()
	s, n, e := straw.Run(f, begin(t, f), l)
	if e != api.OK || n != len(l) {
		t.Fatal(n, e)
	}
	return s
}

func sameHeap(a, b api.Heap) bool {
	return a.Name == b.Name && a.Crop == b.Crop && a.Stage == b.Stage && a.Per == b.Per && a.Wet == b.Wet && slices.Equal(a.Parts, b.Parts)
}

func sameStore(a, b api.Store) bool {
	return a.Year == b.Year && slices.Equal(a.Last, b.Last) && slices.Equal(a.Given, b.Given) && slices.EqualFunc(a.Heaps, b.Heaps, sameHeap) && slices.Equal(a.Used, b.Used) && slices.Equal(a.Waste, b.Waste)
}

func isZero(s api.Store) bool {
	return s.Year == 0 && s.Last == nil && s.Given == nil && s.Heaps == nil && s.Used == nil && s.Waste == nil
}

func copyOf(s api.Store) api.Store {
	c := api.Store{Year: s.Year, Last: slices.Clone(s.Last), Given: slices.Clone(s.Given), Heaps: slices.Clone(s.Heaps), Used: slices.Clone(s.Used), Waste: slices.Clone(s.Waste)}
	for i := range c.Heaps {
		c.Heaps[i].Parts = slices.Clone(c.Heaps[i].Parts)
	}
	return c
}

func copyFarm(f api.Farm) api.Farm { return api.Farm{Dry: f.Dry, Plots: slices.Clone(f.Plots)} }

func sameFarm(a, b api.Farm) bool { return a.Dry == b.Dry && slices.Equal(a.Plots, b.Plots) }

// randomSpan is a span of numbers from low to high.
func randomSpan(rng *rand.Rand, low, high int) api.Span {
	a, b := low+rng.Intn(high-low+1), low+rng.Intn(high-low+1)
	return span(min(a, b), max(a, b))
}

// randomFarm is a farm that may be, of some fields at most. Its fields are small, so that much fits into a store.
func randomFarm(rng *rand.Rand, most int) api.Farm {
	f := api.Farm{Dry: 60 + rng.Intn(100)}
	for i := range rng.Intn(most + 1) {
		f.Plots = append(f.Plots, api.Plot{
			Name:  "p" + strconv.Itoa(i),
			Crop:  api.CrReed + api.Crop(rng.Intn(3)),
			Size:  1 + rng.Intn(4),
			Yield: randomSpan(rng, 0, 12),
			Rest:  1 + rng.Intn(3),
			Wet:   randomSpan(rng, 0, 200),
			Cost:  rng.Intn(6),
		})
	}
	return f
}

// randomChore is a chore that often can be done.
func randomChore(rng *rand.Rand, f api.Farm, s api.Store) api.Chore {
	name := func() string {
		if len(s.Heaps) == 0 || rng.Intn(12) == 0 {
			return "none"
		}
		return s.Heaps[rng.Intn(len(s.Heaps))].Name
	}
	fresh := "h" + strconv.Itoa(rng.Intn(60))
	switch api.ChYear + api.ChoreKind(rng.Intn(int(api.ChRot))) {
	case api.ChYear:
		return year
	case api.ChCut:
		return cut(rng.Intn(len(f.Plots)+1), rng.Intn(40), fresh)
	case api.ChDry:
		rain := randomSpan(rng, 0, 8)
		return dry(name(), rng.Intn(20), rain.Low, rain.High)
	case api.ChComb:
		return comb(name(), rng.Intn(12))
	case api.ChJoin:
		a, b := name(), name()
		for _, h := range s.Heaps { // most heaps fit to no other one
			for _, o := range s.Heaps {
				if h.Name != o.Name && h.Crop == o.Crop && h.Stage == o.Stage && h.Per == 0 && rng.Intn(3) == 0 {
					a, b = h.Name, o.Name
				}
			}
		}
		return join(a, b)
	case api.ChBind:
		return bind(name(), fresh, rng.Intn(8))
	case api.ChUse:
		return use(name(), rng.Intn(8))
	default:
		return rot(name())
	}
}

// randomStore is a store behind some chores that could be done.
func randomStore(t *testing.T, rng *rand.Rand, f api.Farm) api.Store {
	t.Helper()
	s := begin(t, f)
	for range rng.Intn(60) {
		if next, e := straw.Do(f, s, randomChore(rng, f, s)); e == api.OK {
			s = next
		}
	}
	return s
}
