package fix_test

import (
	"math/rand"
	"slices"
	"testing"

	"thatch/api"
	"thatch/fix"
)

// P4.6 (what follows).

// No net is carried by shares and broken by a cut, whatever lists are asked.
func TestNotBoth(t *testing.T) {
	rng := rand.New(rand.NewSource(60))
	for range 3000 {
		n := randomNet(rng, small)
		carried, broken := 0, 0
		for range 40 {
			shares, cut := make([]int, len(n.Ties)), make([]int, len(n.Things))
			for i, x := range n.Ties {
				shares[i] = between(rng, 0, x.Most)
			}
			for i := range cut {
				cut[i] = rng.Intn(3)
			}
			if ok, _ := fix.Carries(n, shares); ok {
				carried++
			}
			if ok, _ := fix.Breaks(n, cut); ok {
				broken++
			}
		}
		if ok := askHolds(t, n); carried > 0 && (broken > 0 || !ok) || broken > 0 && ok {
			t.Fatal(n, carried, broken, ok)
		}
	}
}

func TestFactorTellsWhatHolds(t *testing.T) {
	rng := rand.New(rand.NewSource(61))
	count := map[bool]int{}
	for i := range 1000 {
		n := randomNet(rng, []size{some, large}[i%2])
		if !hasWeight(n) {
			if !askHolds(t, n) {
				t.Fatal("nothing weighs anything", n)
			}
			continue
		}
		ok := askHolds(t, n)
		if isLess(askFactor(t, n), ratio(1, 1)) == ok {
			t.Fatal(n, ok)
		}
		count[ok]++
	}
	if count[true] < 100 || count[false] < 100 {
		t.Error(count)
	}
}

// lighten takes weights from a net, or gives it more that bears.
func lighten(rng *rand.Rand, n api.Net, s size) api.Net {
	n = copyNet(n)
	for range between(rng, 1, 3) {
		x := &n.Things[rng.Intn(len(n.Things))]
		if rng.Intn(2) == 0 {
			x.Weight = rng.Intn(x.Weight + 1)
		} else {
			x.Bears = between(rng, x.Bears, s.bears)
		}
		if len(n.Ties) > 0 {
			y := &n.Ties[rng.Intn(len(n.Ties))]
			y.Most = between(rng, y.Most, s.bears)
		}
	}
	return n
}

func TestLessWeightOrMoreBears(t *testing.T) {
	rng := rand.New(rand.NewSource(62))
	more := 0
	for i := range 1500 {
		s := []size{some, large}[i%2]
		n := randomNet(rng, s)
		light := lighten(rng, n, s)
		if askHolds(t, n) && !askHolds(t, light) {
			t.Fatal(n, light)
		}
		if !hasWeight(n) || !hasWeight(light) {
			continue
		}
		was, is := askFactor(t, n), askFactor(t, light)
		if isLess(is, was) {
			t.Fatal(n, light, was, is)
		}
		if isLess(was, is) {
			more++
		}
	}
	if more < 50 {
		t.Error(more)
	}
}

// beside puts one net beside another one.
func beside(a, b api.Net) api.Net {
	n := copyNet(a)
	for _, x := range b.Things {
		x.Name = "b" + x.Name
		n.Things = append(n.Things, x)
	}
	for _, x := range b.Ties {
		n.Ties = append(n.Ties, tie(x.From+len(a.Things), x.To+len(a.Things), x.Most))
	}
	return n
}

func TestSideBySide(t *testing.T) {
	rng := rand.New(rand.NewSource(63))
	held := 0
	for range 1000 {
		a, b := randomNet(rng, size{12, 30, 20, 90}), randomNet(rng, size{12, 30, 20, 90})
		both := beside(a, b)
		ok := askHolds(t, a) && askHolds(t, b)
		if askHolds(t, both) != ok {
			t.Fatal(a, b)
		}
		if ok {
			held++
		}
		if !hasWeight(a) || !hasWeight(b) {
			continue
		}
		least := askFactor(t, a)
		if f := askFactor(t, b); isLess(f, least) {
			least = f
		}
		if f := askFactor(t, both); f != least {
			t.Fatal(a, b, f, least)
		}
	}
	if held < 50 {
		t.Error(held)
	}
}

// A tie is as good as two between the same things with as much together.
func TestTieInTwo(t *testing.T) {
	rng := rand.New(rand.NewSource(64))
	count := 0
	for range 1500 {
		n := randomNet(rng, size{8, 20, 20, 60})
		if len(n.Ties) == 0 || !hasWeight(n) {
			continue
		}
		two := copyNet(n)
		i := rng.Intn(len(n.Ties))
		part := two.Ties[i]
		part.Most = between(rng, 0, part.Most)
		two.Ties[i].Most -= part.Most
		two.Ties = slices.Insert(two.Ties, rng.Intn(len(n.Ties)+1), part)
		if askHolds(t, two) != askHolds(t, n) || askFactor(t, two) != askFactor(t, n) {
			t.Fatal(n, two)
		}
		count++
	}
	if count < 500 {
		t.Error(count)
	}
}

// No fewer offers are enough than those that Add returns, and it holds with these.
func TestNoFewerOffers(t *testing.T) {
	rng := rand.New(rand.NewSource(65))
	count := 0
	for range 150 {
		n, offers := randomOffered(rng, size{10, 6, 20, 40}, api.MaxOffers)
		list, found, e := fix.Add(n, offers)
		if e != api.OK {
			t.Fatal(n, offers, e)
		}
		for _, set := range setsOf(len(offers)) {
			if found && len(set) >= len(list) {
				break
			}
			if askHolds(t, with(n, offers, set)) {
				t.Fatal(n, offers, list, found, set)
			}
		}
		if found && !askHolds(t, with(n, offers, list)) {
			t.Fatal(n, offers, list)
		}
		if found && len(list) > 1 {
			count++
		}
	}
	if count < 5 {
		t.Error(count)
	}
}

// A net without a weak tie needs it, and without another one does not: it is told so if the tie is offered to it again.
func TestWeakTiesAreMissed(t *testing.T) {
	rng := rand.New(rand.NewSource(66))
	weak := 0
	for range 200 {
		n := randomNet(rng, large)
		list, e := fix.Weak(n)
		if (e == api.OK) != askHolds(t, n) {
			t.Fatal(n, list, e)
		}
		for i, x := range n.Ties {
			if e != api.OK {
				break
			}
			less := without(n, i)
			missed := slices.Contains(list, i)
			if askHolds(t, less) == missed {
				t.Fatal(n, list, i)
			}
			chosen, found, e := fix.Add(less, []api.Tie{x})
			if e != api.OK || !found || (len(chosen) == 1) != missed {
				t.Fatal(n, i, chosen, found, e)
			}
			if missed {
				weak++
			}
		}
	}
	if weak < 50 {
		t.Error(weak)
	}
}
