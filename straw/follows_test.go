package straw_test

import (
	"math/rand"
	"slices"
	"testing"

	"thatch/api"
	"thatch/straw"
)

// P2.6 (what follows).

// doRandom does random chores on random farms, and tells the stores ahead of each that could be done, and behind it.
func doRandom(t *testing.T, seed int64, look func(f api.Farm, a api.Chore, ahead, behind api.Store)) {
	t.Helper()
	rng := rand.New(rand.NewSource(seed))
	for range 300 {
		f := randomFarm(rng, 5)
		s := begin(t, f)
		for range 80 {
			a := randomChore(rng, f, s)
			if next, e := straw.Do(f, s, a); e == api.OK {
				look(f, a, s, next)
				s = next
			}
		}
	}
}

func ledger(t *testing.T, f api.Farm, s api.Store) []api.Count {
	t.Helper()
	l, e := straw.Ledger(f, s)
	if e != api.OK || len(l) != len(f.Plots) {
		t.Fatal(f, s, l, e)
	}
	return l
}

func TestStoresMayBe(t *testing.T) {
	doRandom(t, 27, func(f api.Farm, a api.Chore, _, behind api.Store) {
		if e := straw.CheckStore(f, behind); e != api.OK {
			t.Fatal(f, a, behind, e)
		}
	})
}

// Nothing is lost, only a cut gives, and nothing comes back from Used or Waste.
func TestNothingIsLost(t *testing.T) {
	doRandom(t, 28, func(f api.Farm, a api.Chore, ahead, behind api.Store) {
		was := ledger(t, f, ahead)
		for i, c := range ledger(t, f, behind) {
			if c.Given != c.Used+c.Left+c.Wasted || c.Given != behind.Given[i] {
				t.Fatal(a, i, c)
			}
			cut := 0
			if a.Kind == api.ChCut && a.Plot == i {
				cut = a.Loads
			}
			if c.Given != was[i].Given+cut || c.Used < was[i].Used || c.Wasted < was[i].Wasted {
				t.Fatal(a, i, was[i], c)
			}
			if c.Used != was[i].Used && a.Kind != api.ChUse || c.Wasted != was[i].Wasted && a.Kind != api.ChComb && a.Kind != api.ChRot {
				t.Fatal(a, i, was[i], c)
			}
		}
	})
}

// loadsOf tells the field of each load.
func loadsOf(list []api.Portion) []int {
	var loads []int
	for _, p := range list {
		loads = append(loads, slices.Repeat([]int{p.Plot}, p.Loads)...)
	}
	return loads
}

func TestBundlesAreTheHeap(t *testing.T) {
	count := 0
	doRandom(t, 29, func(f api.Farm, _ api.Chore, _, s api.Store) {
		for _, h := range s.Heaps {
			var loads []int
			for k := 0; h.Stage == api.HpBound; k++ {
				l, e := straw.Bundle(f, s, h.Name, k)
				if e == api.ErrArg {
					break
				}
				if b := loadsOf(l); e != api.OK || len(b) != h.Per || !slices.Equal(runs(b), l) {
					t.Fatal(h, k, l, e)
				}
				loads = append(loads, loadsOf(l)...)
				count++
			}
			if h.Stage == api.HpBound && !slices.Equal(loads, loadsOf(h.Parts)) {
				t.Fatal(h, loads)
			}
		}
	})
	if count < 100 {
		t.Error(count)
	}
}

// However much each day dries a heap and each rain wets it, its moisture lies in Wet.
func TestMoisture(t *testing.T) {
	rng := rand.New(rand.NewSource(30))
	f := reeds()
	lowest, highest := 0, 0
	for range 20000 {
		s := heaps(1)
		s.Heaps[0].Wet = randomSpan(rng, 0, 1000)
		wet := s.Heaps[0].Wet
		moisture := wet.Low + rng.Intn(wet.High-wet.Low+1)
		for range 1 + rng.Intn(3) {
			days, rain := rng.Intn(20), randomSpan(rng, 0, 20)
			next, e := straw.Do(f, s, dry("h0", days, rain.Low, rain.High))
			if e != api.OK {
				t.Fatal(e)
			}
			extreme := rng.Intn(3)
			for range days {
				moisture -= []int{10, 20, 10 + rng.Intn(11)}[extreme]
			}
			for range []int{rain.High, rain.Low, rain.Low + rng.Intn(rain.High-rain.Low+1)}[extreme] {
				moisture += []int{15, 5, 5 + rng.Intn(11)}[extreme]
			}
			if moisture < 0 || moisture > 1000 {
				break
			}
			s = next
			wet := s.Heaps[0].Wet
			if moisture < wet.Low || moisture > wet.High {
				t.Fatal(s, moisture)
			}
			if moisture == wet.Low && wet.Low > 0 {
				lowest++
			}
			if moisture == wet.High && wet.High < 1000 {
				highest++
			}
		}
	}
	// Wet is no wider than it must be, so sometimes the moisture is at its ends.
	if lowest == 0 || highest == 0 {
		t.Error(lowest, highest)
	}
}

func TestNoChoiceCostsLess(t *testing.T) {
	rng := rand.New(rand.NewSource(31))
	for range 400 {
		f, n := randomFarm(rng, 8), randomNeed(rng)
		list, cost, found, e := straw.Choose(f, n)
		if e != api.OK {
			t.Fatal(e)
		}
		set := 0
		for _, i := range list {
			set |= 1 << i
		}
		if _, sum, sure := choiceOf(f, n, set); found && (!sure || sum != cost) {
			t.Fatal(f, n, list, cost)
		}
		for set := range 1 << len(f.Plots) {
			if l, sum, sure := choiceOf(f, n, set); sure && (!found || sum < cost) {
				t.Fatal(f, n, list, cost, l, sum)
			}
		}
		less := n
		for _, need := range []*int{&less.Reed, &less.Straw, &less.Heather} {
			*need = rng.Intn(*need + 1)
		}
		if _, lessCost, lessFound, _ := straw.Choose(f, less); found && (!lessFound || lessCost > cost) {
			t.Fatal(f, n, cost, less, lessCost)
		}
	}
}

// Chores in two lists do what they do in one.
func TestTwoLists(t *testing.T) {
	rng := rand.New(rand.NewSource(32))
	for range 500 {
		f := randomFarm(rng, 4)
		s := begin(t, f)
		var l []api.Chore
		for range rng.Intn(40) {
			a := randomChore(rng, f, s)
			next, e := straw.Do(f, s, a)
			if e == api.OK {
				s = next
			}
			if e == api.OK || rng.Intn(80) == 0 {
				l = append(l, a)
			}
		}
		whole, n, e := straw.Run(f, begin(t, f), l)
		half := rng.Intn(len(l) + 1)
		first, n1, e1 := straw.Run(f, begin(t, f), l[:half])
		if e1 != api.OK {
			if n1 != n || e1 != e || !sameStore(first, whole) {
				t.Fatal(f, l, n, e, n1, e1)
			}
			continue
		}
		second, n2, e2 := straw.Run(f, first, l[half:])
		if n1+n2 != n || e2 != e || !sameStore(second, whole) {
			t.Fatal(f, l, n, e, n1, n2, e2)
		}
	}
}
