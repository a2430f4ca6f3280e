package fire_test

import (
	"math"
	"math/rand"
	"slices"
	"testing"

	"thatch/api"
	"thatch/fire"
)

// P9.1 (Cleared, Times), P9.2 (Allowed, Burning).

func TestCleared(t *testing.T) {
	far := changed(func(g *api.Ground) {
		g.Base = 20
		g.Strips = append(g.Strips, strip("idle", 0, 20, 0), strip("near", 0, 8, 1, 0))
	})
	for _, c := range []struct {
		name string
		g    api.Ground
		plan []int
		want []int
	}{
		{"nothing", example(), nil, nil},
		{"nothing of nothing", api.Ground{}, nil, nil},
		{"gap, lane", example(), list(0, 1), list(7, 22)},
		{"lane, gap", example(), list(1, 0), list(18, 27)},
		{"lane", example(), list(1), list(18)},
		{"at the base, without work", far, list(2), list(0)},
		{"from the base back", far, list(0), list(21)},
		{"back and forth", far, list(2, 1, 3, 0), list(0, 22, 23, 32)},
		{"forth again", far, list(0, 2, 1), list(21, 38, 60)},
		{"as far as there is", full(), list(4, 0), list(10000, 20000)},
		{"as far as there is, and back", changed(func(g *api.Ground) {
			g.Strips = []api.Strip{strip("x", 0, 10000, 10000), strip("y", 0, 0, 10000), strip("z", 0, 10000, 1)}
		}), list(0, 1, 2), list(20000, 40000, 50001)},
	} {
		if times, e := fire.Cleared(c.g, c.plan); e != api.OK || !slices.Equal(times, c.want) {
			t.Error(c.name, times, e)
		}
	}
}

// times is a plan on a ground, and the times of fire with it.
type times struct {
	name             string
	g                api.Ground
	plan             []int
	earliest, latest []int
}

func timeAll(t *testing.T, all []times) {
	t.Helper()
	for _, c := range all {
		if a, b := askTimes(t, c.g, c.plan); !slices.Equal(a, c.earliest) || !slices.Equal(b, c.latest) {
			t.Error(c.name, a, b)
		}
	}
}

func TestTimesExample(t *testing.T) {
	timeAll(t, []times{
		{"no plan", example(), nil, list(0, 10, 15), list(0, 20, 25)},
		{"gap", example(), list(0), list(0, 10, 40), list(0, 20, 50)},
		{"gap, lane", example(), list(0, 1), list(0, 10, -1), list(0, 20, -1)},
		{"lane, gap, though it is not allowed", example(), list(1, 0), list(0, 10, 15), list(0, 20, 25)},
	})
	// Fire comes to c by b after 15 to 25 ticks.
	for work, c := range map[int][2]int{4: {40, 50}, 11: {40, 50}, 12: {15, 50}, 21: {15, 50}, 22: {15, 25}, 30: {15, 25}} {
		g := changed(func(g *api.Ground) { g.Strips[0].Work = work })
		timeAll(t, []times{{"gap", g, list(0), list(0, 10, c[0]), list(0, 20, c[1])}})
	}
}

func TestTimes(t *testing.T) {
	sparks := func(g api.Ground, list ...api.Spark) api.Ground {
		g.Sparks = list
		return g
	}
	fork := burning(4, path(0, 1, 3, 9), path(0, 2, 5, 6), path(1, 3, 3, 3), path(2, 3, 1, 1))
	timeAll(t, []times{
		{"no site", api.Ground{}, nil, nil, nil},
		{"no spark", sparks(fork), nil, list(-1, -1, -1, -1), list(-1, -1, -1, -1)},
		{"no path", burning(3), nil, list(0, -1, -1), list(0, -1, -1)},
		{"the fastest way is another one than the one that is surely the fastest", fork, nil, list(0, 3, 5, 6), list(0, 9, 6, 7)},
		{"fire does not go back along a path", burning(3, path(1, 0, 1, 1), path(2, 1, 1, 1)), nil, list(0, -1, -1), list(0, -1, -1)},
		{"around", burning(3, path(0, 1, 1, 2), path(1, 2, 1, 2), path(2, 0, 1, 2)), nil, list(0, 1, 2), list(0, 2, 4)},
		{"two paths", burning(2, path(0, 1, 4, 9), path(0, 1, 5, 6)), nil, list(0, 4), list(0, 6)},
		{"a later spark", sparks(fork, spark(0, 7)), nil, list(7, 10, 12, 13), list(7, 16, 13, 14)},
		{"a spark where it burns already", sparks(fork, spark(0, 7), spark(3, 13), spark(3, 20)), nil, list(7, 10, 12, 13), list(7, 16, 13, 13)},
		{"a spark where it burns later", sparks(fork, spark(0, 7), spark(2, 1)), nil, list(7, 10, 1, 2), list(7, 16, 1, 2)},
		{"two sparks at a site, the later one ahead", sparks(fork, spark(2, 9), spark(2, 4)), nil, list(-1, -1, 4, 5), list(-1, -1, 4, 5)},
		{"as late as it can be", sparks(burning(2, path(0, 1, 10000, 10000)), spark(0, 100000)), nil, list(100000, 110000), list(100000, 110000)},
	})
}

func TestTimesCleared(t *testing.T) {
	// The paths from a to b and from b to c take 10 to 20 ticks each.
	ground := func(strips ...api.Strip) api.Ground {
		g := burning(3, path(0, 1, 10, 20), path(1, 2, 10, 20))
		g.Strips = strips
		return g
	}
	timeAll(t, []times{
		{"cleared before all", ground(strip("x", 0, 0, 0, 0)), list(0), list(0, -1, -1), list(0, -1, -1)},
		{"cleared just before it may come", ground(strip("x", 0, 4, 5, 0)), list(0), list(0, -1, -1), list(0, -1, -1)},
		{"cleared just when it may come", ground(strip("x", 0, 4, 6, 0)), list(0), list(0, 10, 20), list(0, -1, -1)},
		{"cleared just before it surely comes", ground(strip("x", 0, 4, 15, 0)), list(0), list(0, 10, 20), list(0, -1, -1)},
		{"cleared just when it surely comes", ground(strip("x", 0, 4, 16, 0)), list(0), list(0, 10, 20), list(0, 20, 40)},
		{"the second one cleared just when it surely comes", ground(strip("x", 0, 30, 10, 1)), list(0), list(0, 10, 20), list(0, 20, 40)},
		{"the second one cleared just before it may come", ground(strip("x", 0, 3, 16, 1)), list(0), list(0, 10, -1), list(0, 20, -1)},
		{"a strip that is not in the plan", ground(strip("x", 0, 0, 0, 0), strip("y", 0, 0, 0)), list(1), list(0, 10, 20), list(0, 20, 40)},
		{"cleared twice, the first time is what counts", ground(strip("x", 0, 9, 0, 0), strip("y", 0, 90, 0, 0, 1)), list(0, 1), list(0, -1, -1), list(0, -1, -1)},
		{"cleared twice, too late the first time", ground(strip("x", 0, 9, 0, 0), strip("y", 0, 90, 0, 0, 1)), list(1, 0), list(0, 10, 20), list(0, 20, 40)},
		{"a site that burns earlier than surely is no hindrance", ground(strip("x", 0, 0, 35, 1)), list(0), list(0, 10, 20), list(0, 20, -1)},
	})
}

func TestTimesWatched(t *testing.T) {
	rng := rand.New(rand.NewSource(150))
	held, lost := 0, 0
	for i := range 3000 {
		g := randomGround(rng, []size{small, some}[i%2])
		plan := randomPlan(rng, g)
		earliest, latest := askTimes(t, g, plan)
		cleared := clearings(g, plan)
		if want := watched(g, cleared, lows(g)); !slices.Equal(earliest, want) {
			t.Fatal(g, plan, earliest, want)
		}
		if want := watched(g, cleared, highs(g)); !slices.Equal(latest, want) {
			t.Fatal(g, plan, latest, want)
		}
		free, _ := askTimes(t, g, nil)
		for site, n := range earliest {
			if n != free[site] {
				held++
			}
			if n >= 0 && latest[site] < 0 {
				lost++
			}
		}
		if times, e := fire.Cleared(g, plan); e != api.OK || !slices.Equal(times, gone(g, plan)) {
			t.Fatal(g, plan, times, e)
		}
	}
	if held < 1000 || lost < 60 {
		t.Error(held, lost)
	}
	for range 3 {
		g := randomGround(rng, large)
		plan := randomPlan(rng, g)
		earliest, latest := askTimes(t, g, plan)
		cleared := clearings(g, plan)
		if !slices.Equal(earliest, watched(g, cleared, lows(g))) || !slices.Equal(latest, watched(g, cleared, highs(g))) {
			t.Fatal(g, plan, earliest, latest)
		}
	}
}

func TestAllowed(t *testing.T) {
	work := func(n int) api.Ground { return changed(func(g *api.Ground) { g.Strips[0].Work = n }) }
	lit := changed(func(g *api.Ground) { g.Sparks = append(g.Sparks, spark(1, 6)) })
	for _, c := range []struct {
		name string
		g    api.Ground
		plan []int
		want int
	}{
		{"nothing", example(), nil, -1},
		{"nothing of nothing", api.Ground{}, nil, -1},
		{"gap", example(), list(0), -1},
		{"gap, lane", example(), list(0, 1), -1},
		{"lane", example(), list(1), 0},
		{"lane, gap", example(), list(1, 0), 0},
		{"gap, cleared just when b may burn", work(7), list(0), -1},
		{"gap, cleared later", work(8), list(0), 0},
		{"gap, cleared later than it may pass, and lane", work(14), list(1, 0), 0},
		{"gap, with a spark at b", lit, list(0), 0},
		{"gap, with a spark when it is cleared", changed(func(g *api.Ground) { g.Sparks = append(g.Sparks, spark(1, 7)) }), list(0), -1},
		{"lane second, but gap too late", changed(func(g *api.Ground) { g.Strips[0].Work, g.Sparks[0].Time = 30, 20 }), list(0, 1), 0},
		{"lane too late behind gap", changed(func(g *api.Ground) { g.Strips[1].Work = 29 }), list(0, 1), 1},
		{"lane just not too late behind gap", changed(func(g *api.Ground) { g.Strips[1].Work = 28 }), list(0, 1), -1},
		{"at a site that burns, before it does", changed(func(g *api.Ground) { g.Strips[0] = strip("x", 0, 0, 0, 0) }), list(0), -1},
		{"at a site that burns", changed(func(g *api.Ground) { g.Strips[0] = strip("x", 0, 0, 1, 0) }), list(0), 0},
		{"at a site that never burns", changed(func(g *api.Ground) { g.Strips[0], g.Sparks = strip("x", 0, 10000, 10000, 0), nil }), list(0), -1},
		{"without paths", changed(func(g *api.Ground) { g.Strips[0] = strip("x", 1, 11, 0) }), list(0), 0},
	} {
		if at := askAllowed(t, c.g, c.plan); at != c.want {
			t.Error(c.name, at)
		}
	}
}

func TestAllowedWatched(t *testing.T) {
	rng := rand.New(rand.NewSource(151))
	seen := map[int]int{}
	for i := range 3000 {
		g := randomGround(rng, []size{small, some}[i%2])
		plan := randomPlan(rng, g)
		at, want := askAllowed(t, g, plan), overtaken(g, plan)
		if at != want {
			t.Fatal(g, plan, at, want)
		}
		seen[at]++
	}
	if seen[-1] < 500 || seen[0] < 100 || seen[1] < 100 || seen[2] < 20 {
		t.Error(seen)
	}
}

func TestBurning(t *testing.T) {
	late := changed(func(g *api.Ground) { g.Sparks[0].Time = api.MaxClock })
	for _, c := range []struct {
		name        string
		g           api.Ground
		plan        []int
		time        int
		may, surely []int
	}{
		{"the example", example(), nil, 18, list(0, 1, 2), list(0)},
		{"at the beginning", example(), nil, 0, list(0), list(0)},
		{"just before b may burn", example(), nil, 9, list(0), list(0)},
		{"just when b may burn", example(), nil, 10, list(0, 1), list(0)},
		{"just before b surely burns", example(), nil, 19, list(0, 1, 2), list(0)},
		{"just when b surely burns", example(), nil, 20, list(0, 1, 2), list(0, 1)},
		{"when all burn", example(), nil, 25, list(0, 1, 2), list(0, 1, 2)},
		{"at the end", example(), nil, api.MaxClock, list(0, 1, 2), list(0, 1, 2)},
		{"with gap", example(), list(0), 39, list(0, 1), list(0, 1)},
		{"with gap, at 40", example(), list(0), 40, list(0, 1, 2), list(0, 1)},
		{"with gap and lane, at the end", example(), list(0, 1), api.MaxClock, list(0, 1), list(0, 1)},
		{"before the spark", late, nil, api.MaxClock - 1, nil, nil},
		{"at the spark", late, nil, api.MaxClock, list(0), list(0)},
		{"nothing", api.Ground{}, nil, 5, nil, nil},
		{"the later ones of the sites", changed(func(g *api.Ground) { g.Sparks[0].Site = 2 }), nil, 5, list(2), list(2)},
	} {
		may, surely, e := fire.Burning(c.g, c.plan, c.time)
		if e != api.OK || !slices.Equal(may, c.may) || !slices.Equal(surely, c.surely) {
			t.Error(c.name, may, surely, e)
		}
	}
	for _, time := range []int{-1, api.MaxClock + 1, math.MinInt, math.MaxInt} {
		if may, surely, e := fire.Burning(example(), nil, time); e != api.ErrArg || may != nil || surely != nil {
			t.Error(time, may, surely, e)
		}
	}
}

func TestBurningTimes(t *testing.T) {
	rng := rand.New(rand.NewSource(152))
	for range 1000 {
		g := randomGround(rng, some)
		plan := randomPlan(rng, g)
		earliest, latest := askTimes(t, g, plan)
		time := rng.Intn(100)
		may, surely, e := fire.Burning(g, plan, time)
		if e != api.OK {
			t.Fatal(g, plan, time, e)
		}
		for site := range g.Sites {
			mayBurn := earliest[site] != -1 && earliest[site] <= time
			surelyBurns := latest[site] != -1 && latest[site] <= time
			if slices.Contains(may, site) != mayBurn || slices.Contains(surely, site) != surelyBurns {
				t.Fatal(g, plan, time, may, surely)
			}
		}
		if !slices.IsSorted(may) || !slices.IsSorted(surely) {
			t.Fatal(may, surely)
		}
	}
}
