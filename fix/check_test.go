package fix_test

import (
	"math"
	"math/rand"
	"slices"
	"strings"
	"testing"

	"thatch/api"
	"thatch/fix"
)

// P4.1 (Check, Carries, Breaks).

func TestCheckThing(t *testing.T) {
	for _, c := range []struct {
		name string
		do   func(x *api.Thing)
		want api.Errno
	}{
		{"as it is", func(x *api.Thing) {}, api.OK},
		{"no name", func(x *api.Thing) { x.Name = "" }, api.ErrName},
		{"a name of 16", func(x *api.Thing) { x.Name = strings.Repeat("a", 16) }, api.OK},
		{"a name of 17", func(x *api.Thing) { x.Name = strings.Repeat("a", 17) }, api.ErrName},
		{"a digit first", func(x *api.Thing) { x.Name = "1a" }, api.ErrName},
		{"a great letter", func(x *api.Thing) { x.Name = "Sway" }, api.ErrName},
		{"the name of one ahead", func(x *api.Thing) { x.Name = "straw" }, api.ErrTwice},
		{"weight -1", func(x *api.Thing) { x.Weight = -1 }, api.ErrArg},
		{"weight 0", func(x *api.Thing) { x.Weight = 0 }, api.OK},
		{"weight 100000", func(x *api.Thing) { x.Weight = 100000 }, api.OK},
		{"weight 100001", func(x *api.Thing) { x.Weight = 100001 }, api.ErrArg},
		{"the least weight", func(x *api.Thing) { x.Weight = math.MinInt }, api.ErrArg},
		{"the greatest weight", func(x *api.Thing) { x.Weight = math.MaxInt }, api.ErrArg},
		{"bears -1", func(x *api.Thing) { x.Bears = -1 }, api.ErrArg},
		{"bears 0", func(x *api.Thing) { x.Bears = 0 }, api.OK},
		{"bears 1000000", func(x *api.Thing) { x.Bears = 1000000 }, api.OK},
		{"bears 1000001", func(x *api.Thing) { x.Bears = 1000001 }, api.ErrArg},
		{"weighs more than it bears", func(x *api.Thing) { x.Weight, x.Bears = 2, 1 }, api.OK},
		{"no name, and a weight", func(x *api.Thing) { x.Name, x.Weight = "", -1 }, api.ErrName},
		{"twice, and what it bears", func(x *api.Thing) { x.Name, x.Bears = "straw", -1 }, api.ErrTwice},
	} {
		n := example()
		c.do(&n.Things[1])
		if e := fix.Check(n); e != c.want {
			t.Errorf("%s: %d, not %d", c.name, e, c.want)
		}
	}
}

func TestCheckTie(t *testing.T) {
	for _, c := range []struct {
		name string
		tie  api.Tie
		want api.Errno
	}{
		{"as it is", tie(1, 2, 10), api.OK},
		{"the same again", tie(0, 1, 15), api.OK},
		{"from -1", tie(-1, 2, 10), api.ErrNone},
		{"from 4", tie(4, 2, 10), api.ErrNone},
		{"from the least", tie(math.MinInt, 2, 10), api.ErrNone},
		{"to -1", tie(1, -1, 10), api.ErrNone},
		{"to 4", tie(1, 4, 10), api.ErrNone},
		{"to the greatest", tie(1, math.MaxInt, 10), api.ErrNone},
		{"to itself", tie(1, 1, 10), api.ErrArg},
		{"most -1", tie(1, 2, -1), api.ErrArg},
		{"most 0", tie(1, 2, 0), api.OK},
		{"most 1000000", tie(1, 2, 1000000), api.OK},
		{"most 1000001", tie(1, 2, 1000001), api.ErrArg},
		{"from a ground", tie(2, 3, 10), api.ErrScope},
		{"from a ground to what hangs on it", tie(2, 0, 10), api.ErrScope},
		{"a circle", tie(1, 0, 10), api.ErrLoop},
		{"a circle of ties that bear nothing", tie(1, 0, 0), api.ErrLoop},
		{"from none to itself", tie(4, 4, 10), api.ErrNone},
		{"to none, most -1", tie(1, 4, -1), api.ErrNone},
		{"from a ground to itself", tie(2, 2, 10), api.ErrArg},
		{"from a ground, most -1", tie(2, 3, -1), api.ErrArg},
		{"a circle, most -1", tie(1, 0, -1), api.ErrArg},
	} {
		n := example()
		n.Ties[1] = c.tie
		if e := fix.Check(n); e != c.want {
			t.Errorf("%s: %d, not %d", c.name, e, c.want)
		}
	}
}

func TestCheckNet(t *testing.T) {
	ties := func(count int) func(*api.Net) {
		return func(n *api.Net) { n.Ties = slices.Repeat([]api.Tie{tie(0, 1, 1)}, count) }
	}
	both := func(first, second func(*api.Net)) api.Net {
		return changed(func(n *api.Net) { first(n); second(n) })
	}
	badName := func(n *api.Net) { n.Things[3].Name = "" }
	badWeight := func(n *api.Net) { n.Things[2].Weight = -1 }
	badTie := func(n *api.Net) { n.Ties[0].Most = -1 }
	noEnd := func(n *api.Net) { n.Ties[2].To = 9 }
	circle := func(n *api.Net) { n.Ties[1].To = 0 }
	tooMany := row(25)
	tooMany[0].Name = ""
	for _, c := range []struct {
		name string
		n    api.Net
		want api.Errno
	}{
		{"nothing", net(nil), api.OK},
		{"a tie, and no things", net(nil, tie(0, 1, 1)), api.ErrNone},
		{"24 things", net(row(24)), api.OK},
		{"25 things", net(row(25)), api.ErrLimit},
		{"25 things, a bad one", net(tooMany), api.ErrLimit},
		{"64 ties", changed(ties(64)), api.OK},
		{"65 ties", changed(ties(65)), api.ErrLimit},
		{"65 bad ties", changed(func(n *api.Net) { n.Ties = make([]api.Tie, 65) }), api.ErrLimit},
		{"65 ties and a bad thing", both(ties(65), badWeight), api.ErrArg},
		{"two bad things", both(badName, badWeight), api.ErrArg},
		{"a bad thing and a bad tie", both(badName, badTie), api.ErrName},
		{"two bad ties", both(badTie, noEnd), api.ErrArg},
		{"a circle and a bad tie behind it", both(circle, noEnd), api.ErrNone},
	} {
		if e := fix.Check(c.n); e != c.want {
			t.Errorf("%s: %d, not %d", c.name, e, c.want)
		}
	}
}

func TestCheckCircle(t *testing.T) {
	for count := 2; count <= api.MaxHung; count++ {
		n := chain(count)
		if e := fix.Check(n); e != api.OK {
			t.Error(count, e)
		}
		for to := range count - 1 {
			circle := copyNet(n)
			circle.Ties = append(circle.Ties, tie(count-1, to, 1))
			if e := fix.Check(circle); e != api.ErrLoop {
				t.Error(count, to, e)
			}
			slices.Reverse(circle.Ties)
			if e := fix.Check(circle); e != api.ErrLoop {
				t.Error(count, to, e)
			}
			short := net(n.Things, tie(to, count-1, 1), tie(0, to+1, 1))
			if e := fix.Check(short); e != api.OK {
				t.Error(count, to, e)
			}
		}
	}
	// Two ways that meet are no circle.
	if e := fix.Check(net(row(4), tie(0, 1, 1), tie(0, 2, 1), tie(1, 3, 1), tie(2, 3, 1))); e != api.OK {
		t.Error(e)
	}
}

// hangsOnItself goes along all ties again and again.
func hangsOnItself(n api.Net) bool {
	for i := range n.Things {
		under := map[int]bool{}
		for range n.Things {
			for _, x := range n.Ties {
				if x.From == i || under[x.From] {
					under[x.To] = true
				}
			}
		}
		if under[i] {
			return true
		}
	}
	return false
}

func TestCheckRandomCircles(t *testing.T) {
	rng := rand.New(rand.NewSource(51))
	circles := 0
	for range 3000 {
		n := net(row(between(rng, 2, 10)))
		for range rng.Intn(12) {
			if from, to := rng.Intn(len(n.Things)), rng.Intn(len(n.Things)); from != to {
				n.Ties = append(n.Ties, tie(from, to, 1))
			}
		}
		want := api.OK
		if hangsOnItself(n) {
			want = api.ErrLoop
			circles++
		}
		if e := fix.Check(n); e != want {
			t.Fatal(n, e)
		}
	}
	if circles < 500 || circles > 2500 {
		t.Error(circles)
	}
}

func TestCarries(t *testing.T) {
	one := net(things(hung("a", 3, 3), ground("b", 2, 5)), tie(0, 1, 3))
	two := net(one.Things, tie(0, 1, 2), tie(0, 1, 2))
	for _, c := range []struct {
		name   string
		n      api.Net
		shares []int
		want   bool
	}{
		{"the example", example(), []int{10, 6, 6}, true},
		{"left has all it bears", example(), []int{10, 8, 4}, true},
		{"right has all it bears", example(), []int{10, 3, 9}, true},
		{"left has too much", example(), []int{10, 9, 3}, false},
		{"right has too much", example(), []int{10, 2, 10}, false},
		{"not all of straw", example(), []int{9, 8, 3}, false},
		{"more than straw", example(), []int{11, 7, 6}, false},
		{"more than sway", example(), []int{10, 8, 5}, false},
		{"less than sway", example(), []int{10, 8, 3}, false},
		{"two shares", example(), []int{10, 8}, false},
		{"four shares", example(), []int{10, 8, 4, 0}, false},
		{"no shares", example(), nil, false},
		{"less than 0", changed(func(n *api.Net) { n.Things[2].Bears = 20 }), []int{10, 13, -1}, false},
		{"more than a tie", changed(func(n *api.Net) { n.Ties[0].Most = 9 }), []int{10, 6, 6}, false},
		{"just as much as a tie", changed(func(n *api.Net) { n.Ties[0].Most = 10 }), []int{10, 6, 6}, true},
		{"just as much as sway bears", changed(func(n *api.Net) { n.Things[1].Bears = 12 }), []int{10, 6, 6}, true},
		{"more than sway bears", changed(func(n *api.Net) { n.Things[1].Bears = 11 }), []int{10, 6, 6}, false},
		{"more than straw bears", changed(func(n *api.Net) { n.Things[0].Bears = 9 }), []int{10, 6, 6}, false},
		{"numbers whose sum does not fit", example(), []int{10, math.MaxInt, math.MinInt + 13}, false},
		{"the greatest numbers", example(), []int{math.MaxInt, math.MaxInt, math.MaxInt}, false},
		{"what stands has a weight, too", one, []int{3}, true},
		{"which it does not bear", net(things(hung("a", 3, 3), ground("b", 3, 5)), tie(0, 1, 3)), []int{3}, false},
		{"two ties", two, []int{1, 2}, true},
		{"the same two", two, []int{2, 1}, true},
		{"with too much for one", two, []int{3, 0}, false},
		{"nothing", net(nil), nil, true},
		{"nothing, in an empty list", net(nil), []int{}, true},
		{"nothing, with a share", net(nil), []int{0}, false},
		{"it hangs on nothing, and is light", net(things(hung("a", 0, 5))), nil, true},
		{"it hangs on nothing, and is not", net(things(hung("a", 1, 5))), nil, false},
		{"it stands, and bears itself", net(things(ground("a", 5, 5))), nil, true},
		{"it stands, and does not", net(things(ground("a", 6, 5))), nil, false},
	} {
		if ok, e := fix.Carries(c.n, c.shares); ok != c.want || e != api.OK {
			t.Errorf("%s: %t %d", c.name, ok, e)
		}
	}
}

func TestBreaks(t *testing.T) {
	n := example()
	marked := func(left int) api.Net { return changed(func(n *api.Net) { n.Things[2].Bears = left }) }
	for _, c := range []struct {
		name string
		n    api.Net
		cut  []int
		want bool
	}{
		{"weight 12, way out 17", n, []int{2, 2, 1, 1}, false},
		{"weight 12, way out 12", marked(3), []int{2, 2, 1, 1}, false},
		{"weight 12, way out 11", marked(2), []int{2, 2, 1, 1}, true},
		{"out by a tie of 10 and by right", marked(2), []int{2, 2, 0, 1}, false},
		{"straw alone, by a tie of 15", marked(2), []int{2, 0, 0, 0}, false},
		{"straw alone, by a tie of 9", changed(func(n *api.Net) { n.Ties[0].Most = 9 }), []int{2, 0, 0, 0}, true},
		{"straw bears 9", changed(func(n *api.Net) { n.Things[0].Bears = 9 }), []int{1, 0, 0, 0}, true},
		{"a tie from what has the mark 1 is no way out", changed(func(n *api.Net) { n.Things[0].Bears = 9 }), []int{1, 0, 0, 0}, true},
		{"a tie to what has the mark 1 is none", changed(func(n *api.Net) { n.Things[1].Bears = 11 }), []int{2, 1, 0, 0}, true},
		{"the mark 0 everywhere", n, []int{0, 0, 0, 0}, false},
		{"what stands has a weight, too", net(things(ground("a", 6, 5))), []int{1}, true},
		{"what hangs on nothing", net(things(hung("a", 1, 5))), []int{2}, true},
		{"what hangs on nothing, and bears itself", net(things(hung("a", 1, 5))), []int{1}, false},
		{"the mark 2 for what stands", marked(2), []int{2, 2, 1, 2}, false},
		{"the mark 2 for what is too heavy, and stands", net(things(ground("a", 6, 5))), []int{2}, false},
		{"the mark 3", marked(2), []int{2, 3, 1, 1}, false},
		{"the mark -1", net(things(hung("a", 1, 0), hung("b", 0, 0))), []int{1, -1}, false},
		{"the greatest mark", marked(2), []int{2, 2, 1, math.MaxInt}, false},
		{"too few marks", marked(2), []int{2, 2, 1}, false},
		{"too many", marked(2), []int{2, 2, 1, 1, 0}, false},
		{"none", marked(2), nil, false},
		{"nothing", net(nil), nil, false},
		{"nothing, with a mark", net(nil), []int{1}, false},
	} {
		if ok, e := fix.Breaks(c.n, c.cut); ok != c.want || e != api.OK {
			t.Errorf("%s: %t %d", c.name, ok, e)
		}
	}
}

// All shares from -1 to one more than Most, and all marks from -1 to 3, are told as the chapter says.
func TestCarriesAndBreaksAll(t *testing.T) {
	rng := rand.New(rand.NewSource(52))
	carried, broken := 0, 0
	for range 300 {
		n := randomNet(rng, small)
		highs := mosts(n)
		for i := range highs {
			highs[i]++
		}
		for shares := range lists(-1, highs) {
			want := carry(n, shares, 1, 1)
			if ok, e := fix.Carries(n, shares); ok != want || e != api.OK {
				t.Fatal(n, shares, ok, e)
			}
			if want {
				carried++
			}
		}
		for cut := range lists(-1, slices.Repeat([]int{3}, len(n.Things))) {
			want := breaks(n, cut)
			if ok, e := fix.Breaks(n, cut); ok != want || e != api.OK {
				t.Fatal(n, cut, ok, e)
			}
			if want {
				broken++
			}
		}
	}
	if carried < 100 || broken < 100 {
		t.Error(carried, broken)
	}
}
