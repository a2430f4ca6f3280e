package fix_test

import (
	"math/rand"
	"slices"
	"testing"

	"thatch/api"
	"thatch/fix"
)

// P4.4 (Weak, Add).

func TestWeak(t *testing.T) {
	for _, c := range []struct {
		name string
		n    api.Net
		want []int
	}{
		{"the example", example(), []int{0, 1, 2}},
		{"right bears 12", changed(func(n *api.Net) { n.Things[3].Bears, n.Ties[2].Most = 12, 12 }), []int{0, 2}},
		{"left and right bear 12", changed(func(n *api.Net) {
			n.Things[2].Bears, n.Things[3].Bears, n.Ties[1].Most, n.Ties[2].Most = 12, 12, 12, 12
		}), []int{0}},
		{"the first tie once more", changed(func(n *api.Net) { n.Ties = append(n.Ties, n.Ties[0]) }), []int{1, 2}},
		{"the first tie in two", changed(func(n *api.Net) { n.Ties[0].Most = 5; n.Ties = append(n.Ties, n.Ties[0]) }), []int{0, 1, 2, 3}},
		{"a tie that bears nothing", changed(func(n *api.Net) { n.Ties = append(n.Ties, tie(0, 2, 0)) }), []int{0, 1, 2}},
		{"no weight", changed(func(n *api.Net) { n.Things[0].Weight, n.Things[1].Weight = 0, 0 }), nil},
		{"no ties", net(things(ground("a", 1, 1))), nil},
		{"nothing", net(nil), nil},
		{"one of two is enough, and either can be the one", net(things(hung("a", 5, 5), ground("b", 0, 9)), tie(0, 1, 5), tie(0, 1, 5)), nil},
		{"only the second one is enough", net(things(hung("a", 5, 5), ground("b", 0, 9)), tie(0, 1, 4), tie(0, 1, 5)), []int{1}},
	} {
		if list, e := fix.Weak(c.n); e != api.OK || !slices.Equal(list, c.want) {
			t.Errorf("%s: %v %d", c.name, list, e)
		}
	}
	for _, n := range []api.Net{weakLeft(), net(things(hung("a", 1, 1)))} {
		if list, e := fix.Weak(n); e != api.ErrState || list != nil {
			t.Error(n, list, e)
		}
	}
}

func TestWeakSmall(t *testing.T) {
	rng := rand.New(rand.NewSource(57))
	weak, strong := 0, 0
	for range 1500 {
		n := randomNet(rng, some)
		if isBroken(n) {
			if list, e := fix.Weak(n); e != api.ErrState || list != nil {
				t.Fatal(n, list, e)
			}
			continue
		}
		var want []int
		for i := range n.Ties {
			if isBroken(without(n, i)) {
				want = append(want, i)
				weak++
			} else {
				strong++
			}
		}
		if list, e := fix.Weak(n); e != api.OK || !slices.Equal(list, want) {
			t.Fatal(n, list, want, e)
		}
	}
	if weak < 50 || strong < 50 {
		t.Error(weak, strong)
	}
}

// short is a net of the thing 0, which weighs 10, on the things 1 and 2, which bear 6 and 7 and stand.
func short() api.Net {
	return net(things(hung("a", 10, 12), ground("b", 0, 6), ground("c", 0, 7)), tie(0, 1, 6))
}

func TestAdd(t *testing.T) {
	to := func(k int, mosts ...int) []api.Tie {
		var list []api.Tie
		for _, most := range mosts {
			list = append(list, tie(0, k, most))
		}
		return list
	}
	for _, c := range []struct {
		name   string
		n      api.Net
		offers []api.Tie
		want   []int
		found  bool
	}{
		{"no offers", short(), nil, nil, false},
		{"one is enough", short(), to(2, 4), []int{0}, true},
		{"one is too little", short(), to(2, 3), nil, false},
		{"the first one that is enough", short(), to(2, 3, 4, 10), []int{1}, true},
		{"one, though two of lesser numbers are enough", short(), to(2, 2, 2, 3, 4), []int{3}, true},
		{"the least list of two", short(), to(2, 1, 2, 3, 2), []int{0, 2}, true},
		{"the least list by its second one", short(), to(2, 2, 1, 2, 2), []int{0, 2}, true},
		{"three of them", short(), to(2, 1, 2, 1), []int{0, 1, 2}, true},
		{"to what bears no more", short(), to(1, 10), nil, false},
		{"to what bears too little", changed(func(n *api.Net) { *n = short(); n.Things[2].Bears = 3 }), to(2, 10), nil, false},
		{"all ten", short(), to(2, 0, 1, 0, 1, 0, 1, 0, 1, 0, 0), []int{1, 3, 5, 7}, true},
		{"the last of ten", short(), to(2, 0, 1, 0, 1, 0, 1, 0, 0, 0, 4), []int{9}, true},
		{"it holds without", example(), []api.Tie{tie(0, 3, 5)}, nil, true},
		{"nothing, and no offers", net(nil), nil, nil, true},
		{"the document's example", weakLeft(), []api.Tie{tie(0, 3, 5)}, nil, false},
		{"an offer that goes with another one", net(
			things(hung("a", 3, 3), hung("b", 0, 3), ground("c", 0, 3)),
		), []api.Tie{tie(0, 1, 3), tie(0, 2, 2), tie(1, 2, 3)}, []int{0, 2}, true},
	} {
		list, found, e := fix.Add(c.n, c.offers)
		if e != api.OK || found != c.found || !slices.Equal(list, c.want) {
			t.Errorf("%s: %v %t %d", c.name, list, found, e)
		}
	}
}

func TestAddErrors(t *testing.T) {
	full := func() api.Net {
		n := example()
		n.Ties = append(slices.Repeat([]api.Tie{tie(0, 1, 0)}, 61), n.Ties...)
		return n
	}
	bad := changed(func(n *api.Net) { n.Things[0].Weight = -1 })
	tooFull := full()
	tooFull.Ties = append(tooFull.Ties, tie(0, 1, 0))
	many := func(count int) []api.Tie { return slices.Repeat([]api.Tie{tie(0, 1, 0)}, count) }
	for _, c := range []struct {
		name   string
		n      api.Net
		offers []api.Tie
		want   api.Errno
	}{
		{"10 offers", example(), many(10), api.OK},
		{"11 offers", example(), many(11), api.ErrLimit},
		{"11 bad offers", example(), make([]api.Tie, 11), api.ErrLimit},
		{"a bad net, and 11 offers", bad, many(11), api.ErrArg},
		{"64 ties and 10 offers", full(), many(10), api.OK},
		{"65 ties", tooFull, nil, api.ErrLimit},
		{"65 ties and a bad offer", tooFull, []api.Tie{tie(0, 9, 1)}, api.ErrLimit},
		{"to none", example(), []api.Tie{tie(0, 4, 1)}, api.ErrNone},
		{"from none", example(), []api.Tie{tie(-1, 3, 1)}, api.ErrNone},
		{"to itself", example(), []api.Tie{tie(0, 0, 1)}, api.ErrArg},
		{"most -1", example(), []api.Tie{tie(0, 3, -1)}, api.ErrArg},
		{"most 1000001", example(), []api.Tie{tie(0, 3, 1000001)}, api.ErrArg},
		{"most 1000000", example(), []api.Tie{tie(0, 3, 1000000)}, api.OK},
		{"from what stands", example(), []api.Tie{tie(2, 3, 1)}, api.ErrScope},
		{"a circle with a tie of the net", example(), []api.Tie{tie(1, 0, 1)}, api.ErrLoop},
		{"a circle of offers", net(row(3)), []api.Tie{tie(0, 1, 1), tie(1, 2, 1), tie(2, 0, 1)}, api.ErrLoop},
		{"a circle that would not be taken", example(), []api.Tie{tie(0, 3, 1), tie(1, 0, 1)}, api.ErrLoop},
		{"two bad ones", example(), []api.Tie{tie(2, 3, 1), tie(0, 9, 1)}, api.ErrScope},
		{"a circle, and a bad one", example(), []api.Tie{tie(1, 0, 1), tie(0, 9, 1)}, api.ErrNone},
		{"a bad one behind 64 ties", full(), []api.Tie{tie(0, 9, 1)}, api.ErrNone},
	} {
		list, found, e := fix.Add(c.n, c.offers)
		if e != c.want || found != (e == api.OK) || len(list) > 0 {
			t.Errorf("%s: %v %t %d", c.name, list, found, e)
		}
	}
}

func TestAddSmall(t *testing.T) {
	rng := rand.New(rand.NewSource(58))
	count := map[int]int{}
	for range 800 {
		n, offers := randomOffered(rng, size{5, 4, 20, 40}, 5)
		var want []int
		found := false
		for _, set := range setsOf(len(offers)) {
			if !isBroken(with(n, offers, set)) {
				want, found = set, true
				break
			}
		}
		list, ok, e := fix.Add(n, offers)
		if e != api.OK || ok != found || !slices.Equal(list, want) {
			t.Fatal(n, offers, list, ok, e, want)
		}
		if found {
			count[len(want)]++
		} else {
			count[-1]++
		}
	}
	if count[-1] < 50 || count[0] < 50 || count[1] < 30 || count[2] < 5 {
		t.Error(count)
	}
}
