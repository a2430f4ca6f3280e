package fix_test

import (
	"math/rand"
	"slices"
	"testing"

	"thatch/api"
	"thatch/fix"
)

// P4.2 (Holds) and P4.3 (Factor).

// askHolds tells whether a net holds, with a proof that is looked at.
func askHolds(t *testing.T, n api.Net) bool {
	t.Helper()
	shares, cut, ok, e := fix.Holds(n)
	if e != api.OK {
		t.Fatal(n, e)
	}
	if ok && (!carry(n, shares, 1, 1) || len(cut) > 0) {
		t.Fatal("it does not carry", n, shares, cut)
	}
	if !ok && (!breaks(n, cut) || len(shares) > 0) {
		t.Fatal("it does not break", n, shares, cut)
	}
	return ok
}

func TestHolds(t *testing.T) {
	for _, c := range []struct {
		name string
		n    api.Net
		want bool
	}{
		{"the example", example(), true},
		{"left bears 3", changed(func(n *api.Net) { n.Things[2].Bears = 3 }), true},
		{"left bears 2", weakLeft(), false},
		{"straw bears 10", changed(func(n *api.Net) { n.Things[0].Bears = 10 }), true},
		{"straw bears 9", changed(func(n *api.Net) { n.Things[0].Bears = 9 }), false},
		{"sway bears 12", changed(func(n *api.Net) { n.Things[1].Bears = 12 }), true},
		{"sway bears 11", changed(func(n *api.Net) { n.Things[1].Bears = 11 }), false},
		{"the first tie bears 10", changed(func(n *api.Net) { n.Ties[0].Most = 10 }), true},
		{"the first tie bears 9", changed(func(n *api.Net) { n.Ties[0].Most = 9 }), false},
		{"the other ties bear 12", changed(func(n *api.Net) { n.Ties[1].Most, n.Ties[2].Most = 8, 4 }), true},
		{"the other ties bear 11", changed(func(n *api.Net) { n.Ties[1].Most, n.Ties[2].Most = 7, 4 }), false},
		{"nothing", net(nil), true},
		{"nothing weighs anything", net(row(24)), true},
		{"it hangs on nothing", net(things(hung("a", 1, 5))), false},
		{"it stands", net(things(ground("a", 5, 5))), true},
		{"it stands, and does not bear itself", net(things(ground("a", 6, 5))), false},
		{"all of it hangs, one on the other", net(things(hung("a", 1, 5), hung("b", 0, 5)), tie(0, 1, 5)), false},
		{"two ties with the same ends", net(things(hung("a", 5, 5), ground("b", 0, 5)), tie(0, 1, 2), tie(0, 1, 3)), true},
		{"which bear too little", net(things(hung("a", 5, 5), ground("b", 0, 5)), tie(0, 1, 2), tie(0, 1, 2)), false},
		// What comes first must give way: a goes to c only if b goes to d.
		{"what gives way", net(
			things(hung("a", 4, 4), hung("b", 4, 4), ground("c", 0, 4), ground("d", 0, 4)),
			tie(1, 2, 4), tie(1, 3, 4), tie(0, 2, 4),
		), true},
		{"what cannot give way", net(
			things(hung("a", 4, 4), hung("b", 4, 4), ground("c", 0, 4), ground("d", 0, 4)),
			tie(1, 2, 4), tie(1, 3, 3), tie(0, 2, 4),
		), false},
	} {
		if ok := askHolds(t, c.n); ok != c.want {
			t.Errorf("%s: %t", c.name, ok)
		}
	}
}

func TestHoldsSmall(t *testing.T) {
	rng := rand.New(rand.NewSource(53))
	count := map[bool]int{}
	for range 2000 {
		n := randomNet(rng, small)
		want := isCarried(n)
		if isBroken(n) == want {
			t.Fatal("the chapter is wrong", n)
		}
		if ok := askHolds(t, n); ok != want {
			t.Fatal(n, ok)
		}
		count[want]++
	}
	if count[true] < 200 || count[false] < 200 {
		t.Error(count)
	}
}

// Shares that carry and a cut that breaks are proofs, however large the net is.
func TestHoldsLarge(t *testing.T) {
	rng := rand.New(rand.NewSource(54))
	count := map[bool]int{}
	for i := range 600 {
		n := randomNet(rng, []size{large, heavy, some}[i%3])
		count[askHolds(t, n)]++
	}
	if count[true] < 50 || count[false] < 50 {
		t.Error(count)
	}
}

// greatest is a net of as many things and ties as there may be, with the greatest numbers.
func greatest() api.Net {
	var n api.Net
	for i, x := range row(api.MaxHung) {
		x.Weight, x.Bears, x.Ground = api.MaxWeight, api.MaxBears, i >= 8
		n.Things = append(n.Things, x)
	}
	for i := range 64 {
		n.Ties = append(n.Ties, tie(i%8, 8+i/4, api.MaxBears))
	}
	return n
}

func TestHoldsGreatest(t *testing.T) {
	if !askHolds(t, greatest()) {
		t.Error("it does not hold")
	}
	// All 24 weigh 2400000, which comes to the 16 that stand, and they bear 16000000.
	if f := askFactor(t, greatest()); f != ratio(20, 3) {
		t.Error(f)
	}
}

// askFactor returns the factor of a net, with its proofs, which are looked at: shares that carry so many times the weights, and a cut that carries no more.
func askFactor(t *testing.T, n api.Net) api.Ratio {
	t.Helper()
	f, shares, cut, e := fix.Factor(n)
	if e != api.OK {
		t.Fatal(n, e)
	}
	if f.Den < 1 || f != lowest(f) {
		t.Fatal("not in lowest terms", n, f)
	}
	if !carry(n, shares, f.Num, f.Den) {
		t.Fatal("it does not carry", n, f, shares)
	}
	if weight, way, ok := out(n, cut); !ok || weight == 0 || way*f.Den != weight*f.Num {
		t.Fatal("it is no such cut", n, f, cut)
	}
	return f
}

func TestFactor(t *testing.T) {
	for _, c := range []struct {
		name string
		n    api.Net
		want api.Ratio
	}{
		{"the example", example(), ratio(17, 12)},
		{"left bears 2", weakLeft(), ratio(11, 12)},
		{"left bears 3", changed(func(n *api.Net) { n.Things[2].Bears = 3 }), ratio(1, 1)},
		{"straw bears 14", changed(func(n *api.Net) { n.Things[0].Bears = 14 }), ratio(7, 5)},
		{"sway bears 15", changed(func(n *api.Net) { n.Things[1].Bears = 15 }), ratio(5, 4)},
		{"the first tie bears 12", changed(func(n *api.Net) { n.Ties[0].Most = 12 }), ratio(6, 5)},
		{"the second tie bears 5", changed(func(n *api.Net) { n.Ties[1].Most = 5 }), ratio(7, 6)},
		{"the first tie bears nothing", changed(func(n *api.Net) { n.Ties[0].Most = 0 }), ratio(0, 1)},
		{"nothing bears anything", net(things(hung("a", 3, 0), ground("b", 0, 0)), tie(0, 1, 0)), ratio(0, 1)},
		{"straw weighs nothing", changed(func(n *api.Net) { n.Things[0].Weight = 0 }), ratio(17, 2)},
		{"it hangs on nothing", net(things(hung("a", 1, 5))), ratio(0, 1)},
		{"it stands", net(things(ground("a", 4, 6))), ratio(3, 2)},
		{"a whole number of times", net(things(ground("a", 2, 6))), ratio(3, 1)},
		{"beside one that bears nothing, and need not", net(things(ground("a", 4, 6), hung("b", 0, 0))), ratio(3, 2)},
		{"beside one that bears nothing, and must", net(things(ground("a", 4, 6), hung("b", 1, 0))), ratio(0, 1)},
		{"the greatest one", net(things(hung("a", 1, 1000000), ground("b", 0, 1000000)), tie(0, 1, 1000000)), ratio(1000000, 1)},
		{"the least one", net(things(hung("a", 100000, 1000000), ground("b", 0, 1000000)), tie(0, 1, 1)), ratio(1, 100000)},
	} {
		if f := askFactor(t, c.n); f != c.want {
			t.Errorf("%s: %v", c.name, f)
		}
	}
	_, shares, _, _ := fix.Factor(example())
	if !slices.Equal(shares, []int{170, 96, 108}) {
		t.Error(shares)
	}
}

func TestFactorWithoutWeight(t *testing.T) {
	for _, n := range []api.Net{
		net(nil),
		chain(24),
		changed(func(n *api.Net) { n.Things[0].Weight, n.Things[1].Weight = 0, 0 }),
	} {
		if f, shares, cut, e := fix.Factor(n); e != api.ErrScope || f != (api.Ratio{}) || shares != nil || cut != nil {
			t.Error(n, f, shares, cut, e)
		}
	}
}

func TestFactorSmall(t *testing.T) {
	rng := rand.New(rand.NewSource(55))
	kinds := map[bool]int{}
	for range 1500 {
		n := randomNet(rng, some)
		if !hasWeight(n) {
			continue
		}
		f := askFactor(t, n)
		if want := leastQuotient(n); f != want {
			t.Fatal(n, f, want)
		}
		kinds[f.Num > 0 && f.Den > 1]++
	}
	if kinds[true] < 100 || kinds[false] < 100 {
		t.Error(kinds)
	}
}

// Shares that carry so many times the weights, and a cut that carries no more, are proofs, however large the net is.
func TestFactorLarge(t *testing.T) {
	rng := rand.New(rand.NewSource(56))
	above, below := 0, 0
	for i := range 300 {
		n := randomNet(rng, []size{large, heavy}[i%2])
		if !hasWeight(n) {
			continue
		}
		if f := askFactor(t, n); f.Num > f.Den {
			above++
		} else if f.Num > 0 {
			below++
		}
	}
	if above < 20 || below < 20 {
		t.Error(above, below)
	}
}
