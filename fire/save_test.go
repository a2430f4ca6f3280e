package fire_test

import (
	"math"
	"math/rand"
	"slices"
	"testing"

	"thatch/api"
	"thatch/fire"
)

// P9.4 (Save).

// rescue is what is to be kept, and the plan for it.
type rescue struct {
	name  string
	g     api.Ground
	sites []int
	time  int
	want  []int
	found bool
}

func rescueAll(t *testing.T, all []rescue) {
	t.Helper()
	for _, c := range all {
		if plan, found := askSave(t, c.g, c.sites, c.time); !slices.Equal(plan, c.want) || found != c.found {
			t.Error(c.name, plan, found)
		}
	}
}

func TestSaveExample(t *testing.T) {
	rescueAll(t, []rescue{
		{"c before it may burn", example(), list(2), 14, nil, true},
		{"c when it may burn", example(), list(2), 15, list(0), true},
		{"c until 30", example(), list(2), 30, list(0), true},
		{"c until 39", example(), list(2), 39, list(0), true},
		{"c until 40", example(), list(2), 40, list(0, 1), true},
		{"c for ever", example(), list(2), api.MaxClock, list(0, 1), true},
		{"c twice", example(), list(2, 2), 40, list(0, 1), true},
		{"b before it may burn", example(), list(1), 9, nil, true},
		{"b when it may burn", example(), list(1), 10, nil, false},
		{"a", example(), list(0), 0, nil, false},
		{"c and b", example(), list(2, 1), 9, nil, true},
		{"c and b when that may burn", example(), list(2, 1), 10, nil, false},
		{"nothing", example(), nil, api.MaxClock, nil, true},
		{"nothing of nothing", api.Ground{}, nil, 0, nil, true},
		{"all, before the spark", changed(func(g *api.Ground) { g.Sparks[0].Time = 1 }), list(0, 1, 2), 0, nil, true},
	})
}

func TestSave(t *testing.T) {
	// Fire comes to b when 10 ticks have passed, and must be stopped on its only path.
	ground := func(strips ...api.Strip) api.Ground {
		g := burning(3, path(0, 1, 10, 10), path(0, 2, 20, 20))
		g.Strips = strips
		return g
	}
	rescueAll(t, []rescue{
		{"the strip that is cleared first", ground(strip("x", 1, 8, 0, 0), strip("y", 1, 7, 0, 0), strip("z", 1, 9, 0, 0)), list(1), 99, list(1), true},
		{"the first of two that are cleared first", ground(strip("x", 1, 8, 0, 0), strip("y", 1, 7, 0, 0), strip("z", 1, 0, 7, 0)), list(1), 99, list(1), true},
		{"one strip, though two are cleared earlier", ground(strip("x", 1, 1, 0, 0), strip("y", 1, 2, 0, 1), strip("z", 1, 8, 0, 0, 1)), list(1, 2), 99, list(2), true},
		{"two strips, the nearer one first", ground(strip("x", 1, 5, 0, 0), strip("y", 2, 2, 0, 1)), list(1, 2), 99, list(1, 0), true},
		{"two strips in ascending order, if that does not matter", ground(strip("x", 2, 0, 3, 0), strip("y", 2, 0, 4, 1)), list(1, 2), 99, list(0, 1), true},
		{"two strips, the one that cannot wait first", ground(strip("x", 2, 0, 8, 1), strip("y", 2, 0, 8, 0)), list(1, 2), 99, list(1, 0), true},
		{"two strips, none of which can wait", ground(strip("x", 2, 0, 9, 0), strip("y", 1, 0, 11, 1)), list(1, 2), 99, nil, false},
		{"a strip for one of two sites, the other one is kept long enough", ground(strip("x", 1, 0, 8, 0), strip("y", 1, 0, 8, 1)), list(1, 2), 19, list(0), true},
		{"only a strip that clears too late", ground(strip("x", 2, 0, 10, 0)), list(1), 99, nil, false},
		{"a strip that just stops fire, at a site that burns before", ground(strip("x", 0, 0, 1, 0)), list(1), 99, nil, false},
		{"a strip at a site that burns when it is cleared", ground(strip("x", 0, 0, 0, 0)), list(1), 99, list(0), true},
		{"a strip that is cleared before its site burns", ground(strip("x", 2, 0, 5, 0), strip("y", 1, 0, 10, 1)), list(2), 99, list(1), true},
		{"a strip that is cleared later, and one that keeps its site so long", ground(strip("x", 2, 0, 5, 0), strip("y", 1, 0, 11, 1)), list(2), 99, list(0, 1), true},
		{"no strip", ground(), list(1), 99, nil, false},
	})
}

// All five strips, in the only order in which none of them is too late.
func TestSaveAllStrips(t *testing.T) {
	var paths []api.Path
	for i := range 5 {
		paths = append(paths, path(0, i+1, 10*(i+1)+1, 99))
	}
	g := burning(6, paths...)
	for i, name := range names(5) {
		path := (2 * i) % 5
		g.Strips = append(g.Strips, strip(name, path+1, 0, 10, path))
	}
	rescueAll(t, []rescue{
		{"all", g, list(1, 2, 3, 4, 5), 1000, list(0, 3, 1, 4, 2), true},
		{"all but the last one", g, list(1, 2, 3, 4), 1000, list(0, 3, 1, 4), true},
		{"the first ones of them", g, list(2, 1), 1000, list(0, 3), true},
		{"all, as long as one may burn", g, list(1, 2, 3, 4, 5), 50, list(0, 3, 1, 4), true},
	})
	g.Strips[2].Work++
	rescueAll(t, []rescue{{"the last one is a little too late", g, list(1, 2, 3, 4, 5), 1000, nil, false}})
}

func TestSaveErrors(t *testing.T) {
	for _, c := range []struct {
		name  string
		sites []int
		time  int
		want  api.Errno
	}{
		{"site 3", list(2, 3), 5, api.ErrNone},
		{"site -1", list(-1), 5, api.ErrNone},
		{"site far off", list(math.MaxInt, math.MinInt), 5, api.ErrNone},
		{"site 3, time -1", list(3), -1, api.ErrNone},
		{"time -1", list(2), -1, api.ErrArg},
		{"time -1, no site", nil, -1, api.ErrArg},
		{"time 100001", list(2), 100001, api.ErrArg},
		{"the greatest time", list(2), math.MaxInt, api.ErrArg},
		{"the least time", list(2), math.MinInt, api.ErrArg},
		{"a site very often", make([]int, 1<<20), api.MaxClock, api.OK},
	} {
		if plan, found, e := fire.Save(example(), c.sites, c.time); e != c.want || found || plan != nil {
			t.Error(c.name, plan, found, e)
		}
	}
}

// defended is a random ground on which fire spreads from the first site to those behind it, with strips of few paths.
func defended(rng *rand.Rand) api.Ground {
	g := api.Ground{Sites: names(between(rng, 3, 6)), Sparks: []api.Spark{spark(0, rng.Intn(9))}, Base: rng.Intn(4)}
	for to := 1; to < len(g.Sites); to++ {
		low := between(rng, 4, 20)
		g.Paths = append(g.Paths, path(rng.Intn(to), to, low, low+rng.Intn(9)))
		if rng.Intn(2) == 0 {
			g.Paths = append(g.Paths, path(rng.Intn(to), to, low+rng.Intn(9), 40))
		}
	}
	for _, name := range names(between(rng, 1, api.MaxStrips)) {
		s := strip(name, rng.Intn(len(g.Sites)), rng.Intn(4), rng.Intn(7), rng.Intn(len(g.Paths)))
		if more := rng.Intn(len(g.Paths)); more > s.Paths[0] {
			s.Paths = append(s.Paths, more)
		}
		g.Strips = append(g.Strips, s)
	}
	return g
}

func TestSaveTried(t *testing.T) {
	rng := rand.New(rand.NewSource(155))
	seen := map[int]int{}
	for i := range 1000 {
		g := defended(rng)
		if i%3 == 0 {
			g = randomGround(rng, small)
		}
		sites, time := randomSites(rng, g), between(rng, 5, 60)
		plan, found := askSave(t, g, sites, time)
		want, ok := saved(g, sites, time)
		if found != ok || !slices.Equal(plan, want) {
			t.Fatal(g, sites, time, plan, found, want, ok)
		}
		if found {
			seen[len(plan)]++
		} else {
			seen[-1]++
		}
	}
	if seen[-1] < 300 || seen[0] < 300 || seen[1] < 50 || seen[2] < 15 {
		t.Error(seen)
	}
}
