package mend_test

import (
	"math"
	"math/rand"
	"slices"
	"testing"

	"thatch/api"
	"thatch/mend"
)

// P8.3 (Values, Proves).

func TestValues(t *testing.T) {
	unkept := works(2, 0, 1, crafts(add(20, 3)), slope(40, 30, 60, 1, 20), slope(60, 30, 60, 1, 30))
	for _, c := range []struct {
		name string
		w    api.Works
		want []api.Worth
	}{
		{"the example", example(), exampleValues()},
		{"no years", changed(func(w *api.Works) { w.Years = 0 }), nil},
		{"nothing is to be done", works(2, 10, 1, nil, slope(9, 0, 9, 1, 5)), []api.Worth{worth(0, 0, 9), worth(1, 0, 4)}},
		{"it cannot be kept", works(1, 0, 1, nil, slope(40, 30, 60, 1, 20)), []api.Worth{worth(0, api.MaxPaid, 40)}},
		{"it cannot be kept from the year 1 on", unkept, []api.Worth{worth(0, api.MaxPaid, 40, 60), worth(1, api.MaxPaid, 40, 30)}},
		{"one of two states can be kept", works(2, 5, 1, crafts(add(20, 3)), slope(40, 20, 60, 2, 20, 40)), []api.Worth{worth(0, 22, 40), worth(1, api.MaxPaid, 20), worth(1, 11, 40)}},
		{"two slopes", works(2, 0, 1, crafts(add(2, 1)), slope(5, 1, 9, 1, 2), slope(5, 1, 9, 1, 2)), []api.Worth{worth(0, 0, 5, 5), worth(1, 0, 3, 3), worth(1, 0, 3, 5), worth(1, 0, 5, 3)}},
	} {
		if l := askValues(t, c.w); !sameWorths(l, c.want) {
			t.Error(c.name, l)
		}
	}
}

func TestValuesErrors(t *testing.T) {
	for _, c := range []struct {
		w    api.Works
		want api.Errno
	}{
		{fuller(), api.ErrLimit},
		{api.Works{}, api.ErrArg},
		{changed(func(w *api.Works) { w.Slopes[0].Takes = make([]int, 13) }), api.ErrLimit},
		{changed(func(w *api.Works) { w.Years = 41 }), api.ErrArg},
	} {
		if l, e := mend.Values(c.w); e != c.want || len(l) > 0 {
			t.Error(c.w, l, e)
		}
	}
	if l := askValues(t, full()); len(l) != api.MaxStates-84 {
		t.Error(len(l))
	}
}

func TestValuesTried(t *testing.T) {
	rng := rand.New(rand.NewSource(134))
	seen := map[bool]int{}
	for range 1000 {
		w := fewWorks(rng)
		l := askValues(t, w)
		if want := triedValues(w); !sameWorths(l, want) {
			t.Fatal(w, l, want)
		}
		for _, x := range l {
			seen[x.Cost == api.MaxPaid]++
		}
	}
	if seen[true] < 200 || seen[false] < 1000 {
		t.Error(seen)
	}
}

// proof is a list, and what it shows.
type proof struct {
	name  string
	least int
	list  []api.Worth
	want  bool
}

func proveAll(t *testing.T, w api.Works, list []proof) {
	t.Helper()
	for _, c := range list {
		if yes := askProves(t, w, c.least, c.list); yes != c.want {
			t.Error(c.name, yes)
		}
	}
}

// told is the list of the examples with something else in it.
func told(do func(l []api.Worth) []api.Worth) []api.Worth { return do(exampleValues()) }

func TestProves(t *testing.T) {
	cost := func(i, n int) []api.Worth {
		return told(func(l []api.Worth) []api.Worth {
			l[i].Cost = n
			return l
		})
	}
	proveAll(t, example(), []proof{
		{"as it is", 48, exampleValues(), true},
		{"one more", 49, exampleValues(), false},
		{"less", 47, exampleValues(), true},
		{"much less", math.MinInt, exampleValues(), true},
		{"much more", math.MaxInt, exampleValues(), false},
		{"the first one costs more", 48, cost(0, 49), false},
		{"the first one costs less", 48, cost(0, 47), false},
		{"the first one costs less, and that is asked", 47, cost(0, 47), true},
		{"a later one costs less than the first one needs", 48, cost(1, 47), false},
		{"a later one costs less than the first one needs by another row", 48, cost(2, 23), false},
		{"a later one costs less, and that is asked, but the first one is the same", 47, cost(2, 23), false},
		{"a later one costs more", 48, cost(2, 25), false},
		{"one of the last year costs more", 48, cost(3, 25), false},
		{"one of the last year costs less", 48, cost(4, 23), false},
		{"one of the last year that costs nothing costs more", 48, cost(5, 1), false},
		{"below 0", 48, cost(5, -1), false},
		{"below 0, and that is all", -1, cost(0, -1), false},
	})
}

func TestProvesLists(t *testing.T) {
	without := func(i int) []api.Worth {
		return told(func(l []api.Worth) []api.Worth { return slices.Delete(l, i, i+1) })
	}
	with := func(i int, x ...api.Worth) []api.Worth {
		return told(func(l []api.Worth) []api.Worth { return slices.Insert(l, i, x...) })
	}
	list := []proof{
		{"empty", 0, nil, false},
		{"backward", 0, told(func(l []api.Worth) []api.Worth { slices.Reverse(l); return l }), false},
		{"the same twice", 0, with(1, worth(0, 48, 50)), false},
		{"the same again, for less", 0, with(3, worth(1, 20, 45)), false},
		{"more than there are", 48, with(1, worth(0, 0, 60)), true},
		{"more than there are, all that there can be of the last year", 48, with(6, worth(2, 0, 46), worth(2, 0, 60)), true},
		{"more than there are, with a value that is too much", 48, with(6, worth(2, 1, 46)), false},
		{"more than there are, ahead of the first one", 48, with(0, worth(0, 0, 0)), true},
		{"more than there are, not in order", 48, with(1, worth(0, 0, 49)), false},
		{"more than there are, that leads to no state of the list", 48, with(3, worth(1, 0, 46)), false},
		{"more than there are, that leads nowhere", 48, with(3, worth(2, api.MaxPaid, 24), worth(2, 0, 29)), false},
		{"a year of -1", 0, with(0, worth(-1, 0, 50)), false},
		{"the year behind the last one", 48, with(6, worth(3, 0, 40)), false},
		{"a year far behind", 48, with(6, worth(math.MaxInt, 0, 40)), false},
		{"no thicknesses", 48, with(0, worth(0, 0)), false},
		{"two thicknesses", 48, with(1, worth(0, 0, 50, 0)), false},
		{"five thicknesses", 48, with(1, worth(0, 0, 50, 0, 0, 0, 0)), false},
		{"a thickness below 0", 48, with(0, worth(0, 0, -1)), false},
		{"a thickness above Full", 48, with(1, worth(0, 0, 61)), false},
		{"a Cost above MaxPaid", 48, with(1, worth(0, api.MaxPaid+1, 60)), false},
	}
	for i := range exampleValues() {
		list = append(list, proof{"without one", 0, without(i), false})
	}
	proveAll(t, example(), list)
}

// From what cannot be kept no row leads anywhere: it may be worth as much as can be, but no more.
func TestProvesUnkept(t *testing.T) {
	w := works(1, 0, 1, nil, slope(40, 30, 60, 1, 20))
	for cost, want := range map[int]bool{0: true, 7: true, api.MaxPaid: true, api.MaxPaid + 1: false, -1: false, math.MaxInt: false} {
		if yes := askProves(t, w, min(cost, 7), []api.Worth{worth(0, cost, 40)}); yes != want {
			t.Error(cost, yes)
		}
	}
	proveAll(t, w, []proof{
		{"all", api.MaxPaid, []api.Worth{worth(0, api.MaxPaid, 40)}, true},
		{"more", api.MaxPaid + 1, []api.Worth{worth(0, api.MaxPaid, 40)}, false},
		{"another one is kept", api.MaxPaid, []api.Worth{worth(0, api.MaxPaid, 40), worth(0, 0, 50)}, true},
		{"another one is kept, but said not to be", api.MaxPaid, []api.Worth{worth(0, api.MaxPaid, 40), worth(0, 1, 50)}, false},
		{"only another one", 0, []api.Worth{worth(0, 0, 50)}, false},
	})
}

func TestProvesWithoutYears(t *testing.T) {
	proveAll(t, changed(func(w *api.Works) { w.Years = 0 }), []proof{
		{"0", 0, nil, true},
		{"0, by an empty list", 0, []api.Worth{}, true},
		{"less", math.MinInt, nil, true},
		{"1", 1, nil, false},
		{"by a list", 0, []api.Worth{worth(0, 0, 50)}, false},
	})
}

func TestProvesErrors(t *testing.T) {
	many := func(count int) []api.Worth {
		var list []api.Worth
		for i := range count {
			list = append(list, worth(i/1001, 0, i%1001))
		}
		return list
	}
	w := works(2, 0, 0, nil, slope(10, 0, 1000, 1, 500))
	for _, c := range []struct {
		w    api.Works
		l    []api.Worth
		yes  bool
		want api.Errno
	}{
		{w, many(2000), true, api.OK},
		{w, many(2001), false, api.ErrLimit},
		{w, make([]api.Worth, 2000), false, api.OK},
		{w, make([]api.Worth, 2001), false, api.ErrLimit},
		{changed(func(w *api.Works) { w.Years = 0 }), make([]api.Worth, 2001), false, api.ErrLimit},
		{api.Works{}, make([]api.Worth, 2001), false, api.ErrArg},
		{changed(func(w *api.Works) { w.Slopes[0].Takes = make([]int, 13) }), nil, false, api.ErrLimit},
	} {
		if yes, e := mend.Proves(c.w, 0, c.l); yes != c.yes || e != c.want {
			t.Error(c.w, len(c.l), yes, e)
		}
	}
	// Whether there are too many states does not matter for a list.
	if yes := askProves(t, fuller(), 0, nil); yes {
		t.Error(yes)
	}
}

// misled is a list with some elements changed.
func misled(rng *rand.Rand, l []api.Worth) []api.Worth {
	for range rng.Intn(3) {
		if len(l) == 0 {
			break
		}
		i := rng.Intn(len(l))
		switch rng.Intn(6) {
		case 0:
			l = slices.Delete(l, i, i+1)
		case 1:
			l[i].Thick = slices.Clone(l[i].Thick)
			l[i].Thick[0] += between(rng, -1, 1)
		case 2:
			l[i].Year += between(rng, -1, 1)
		case 3:
			l = append(l, worth(l[i].Year, rng.Intn(3), l[i].Thick...))
			slices.SortFunc(l, compareWorths)
		default:
			l[i].Cost += between(rng, -2, 1)
		}
	}
	return l
}

func TestProvesRandom(t *testing.T) {
	rng := rand.New(rand.NewSource(135))
	seen := map[bool]int{}
	for range 3000 {
		w := fewWorks(rng)
		l := askValues(t, w)
		least := 0
		if len(l) > 0 {
			least = l[0].Cost - rng.Intn(3)
		}
		l = misled(rng, l)
		want := isProof(w, least, l)
		if yes := askProves(t, w, least, l); yes != want {
			t.Fatal(w, least, l, yes)
		}
		seen[want]++
	}
	if seen[true] < 500 || seen[false] < 500 {
		t.Error(seen)
	}
}
