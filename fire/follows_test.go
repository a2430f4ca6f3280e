package fire_test

import (
	"math/rand"
	"slices"
	"testing"

	"thatch/api"
	"thatch/fire"
)

// P9.7 (between), P9.8 (proved), P9.9 (saved).

// parts is into how many parts a tick is cut for fire that does not take whole ticks.
const parts = 3

func scaled(numbers []int) []int {
	var list []int
	for _, n := range numbers {
		if n >= 0 {
			n *= parts
		}
		list = append(list, n)
	}
	return list
}

// really is when each site begins to burn, in parts of ticks, if fire goes along each path as fast as it happens to.
func really(rng *rand.Rand, g api.Ground, plan []int) []int {
	var ticks []int
	for _, p := range g.Paths {
		n := between(rng, parts*p.Time.Low, parts*p.Time.High)
		switch rng.Intn(4) {
		case 0:
			n = parts * p.Time.Low
		case 1:
			n = parts * p.Time.High
		}
		ticks = append(ticks, n)
	}
	fine := copyGround(g)
	for i := range fine.Sparks {
		fine.Sparks[i].Time *= parts
	}
	return watched(fine, scaled(clearings(g, plan)), ticks)
}

func TestBetween(t *testing.T) {
	rng := rand.New(rand.NewSource(158))
	inside, spared := 0, 0
	for i := range 1500 {
		g := defended(rng)
		if i%2 == 0 {
			g = randomGround(rng, small)
		}
		plan := randomPlan(rng, g)
		earliest, latest := askTimes(t, g, plan)
		for range 4 {
			for site, since := range really(rng, g, plan) {
				if since >= 0 && (earliest[site] < 0 || since < parts*earliest[site]) {
					t.Fatal("too early", g, plan, site, since, earliest)
				}
				if latest[site] >= 0 && (since < 0 || since > parts*latest[site]) {
					t.Fatal("too late", g, plan, site, since, latest)
				}
				if since > parts*earliest[site] && since < parts*latest[site] {
					inside++
				}
				if since < 0 && earliest[site] >= 0 {
					spared++
				}
			}
		}
	}
	if inside < 1000 || spared < 60 {
		t.Error(inside, spared)
	}
}

func TestWhatSurelyBurnsMayBurn(t *testing.T) {
	rng := rand.New(rand.NewSource(159))
	for range 1500 {
		g := randomGround(rng, some)
		plan := randomPlan(rng, g)
		earliest, latest := askTimes(t, g, plan)
		for site, n := range latest {
			if n >= 0 && (earliest[site] < 0 || earliest[site] > n) {
				t.Fatal(g, plan, earliest, latest)
			}
		}
		may, surely, e := fire.Burning(g, plan, rng.Intn(60))
		for _, site := range surely {
			if e != api.OK || !slices.Contains(may, site) {
				t.Fatal(g, plan, may, surely, e)
			}
		}
	}
}

// without is a ground with a path less.
func without(g api.Ground, path int) api.Ground {
	g.Paths = slices.Delete(g.Paths, path, path+1)
	for i, s := range g.Strips {
		var left []int
		for _, p := range s.Paths {
			if p < path {
				left = append(left, p)
			}
			if p > path {
				left = append(left, p-1)
			}
		}
		g.Strips[i].Paths = left
	}
	return g
}

// slower are grounds on which fire is slower than on another one, each in its own way.
func slower(rng *rand.Rand, g api.Ground) []api.Ground {
	var list []api.Ground
	if len(g.Sparks) > 0 {
		i := rng.Intn(len(g.Sparks))
		later, less := copyGround(g), copyGround(g)
		later.Sparks[i].Time += rng.Intn(20)
		less.Sparks = slices.Delete(less.Sparks, i, i+1)
		list = append(list, later, less)
	}
	if len(g.Paths) > 0 {
		i := rng.Intn(len(g.Paths))
		slow := copyGround(g)
		slow.Paths[i].Time.Low += rng.Intn(20)
		slow.Paths[i].Time.High = slow.Paths[i].Time.Low + rng.Intn(20)
		list = append(list, slow, without(copyGround(g), i))
	}
	return list
}

func TestSlowerIsNoEarlier(t *testing.T) {
	rng := rand.New(rand.NewSource(160))
	later, never := 0, 0
	for i := range 1500 {
		g := defended(rng)
		if i%2 == 0 {
			g = randomGround(rng, some)
		}
		plan := randomPlan(rng, g)
		earliest, _ := askTimes(t, g, plan)
		for _, x := range slower(rng, g) {
			times, _ := askTimes(t, x, plan)
			for site, n := range times {
				if n >= 0 && (earliest[site] < 0 || n < earliest[site]) {
					t.Fatal(g, x, plan, earliest, times)
				}
				if n > earliest[site] {
					later++
				}
				if n < earliest[site] {
					never++
				}
			}
		}
	}
	if later < 500 || never < 500 {
		t.Error(later, never)
	}
}

// Along the way that is told fire comes at the earliest time.
func TestWayIsGone(t *testing.T) {
	rng := rand.New(rand.NewSource(161))
	long := 0
	for i := range 1500 {
		g := randomGround(rng, []size{some, large}[i%2])
		plan := randomPlan(rng, g)
		earliest, _ := askTimes(t, g, plan)
		cleared := clearings(g, plan)
		for site := range g.Sites {
			paths, found := askWay(t, g, plan, site)
			if found != (earliest[site] >= 0) {
				t.Fatal(g, plan, site, earliest, found)
			}
			if !found {
				continue
			}
			at := site
			if len(paths) > 0 {
				at = g.Paths[paths[0]].From
			}
			time := earliest[at]
			if !slices.Contains(g.Sparks, spark(at, time)) {
				t.Fatal("not from a spark on", g, plan, site, paths)
			}
			for _, number := range paths {
				p := g.Paths[number]
				time += p.Time.Low
				if p.From != at || cleared[number] >= 0 && cleared[number] < time {
					t.Fatal("no way", g, plan, site, paths)
				}
				at = p.To
			}
			if at != site || time != earliest[site] {
				t.Fatal("not at its time", g, plan, site, paths)
			}
			if len(paths) > 2 {
				long++
			}
		}
	}
	if long < 500 {
		t.Error(long)
	}
}

func TestTimesProveThemselves(t *testing.T) {
	rng := rand.New(rand.NewSource(162))
	for i := range 2000 {
		g := randomGround(rng, []size{small, some, large}[i%3])
		plan := randomPlan(rng, g)
		earliest, _ := askTimes(t, g, plan)
		if !askProves(t, g, plan, earliest) {
			t.Fatal(g, plan, earliest)
		}
		// One number more is no proof.
		for site, n := range earliest {
			more := slices.Clone(earliest)
			more[site] = n + 1
			if n >= 0 && askProves(t, g, plan, more) {
				t.Fatal(g, plan, more)
			}
		}
	}
}

// Whatever is proved, no site burns before the number that is proved for it.
func TestProvedIsNotTooLate(t *testing.T) {
	rng := rand.New(rand.NewSource(163))
	proved, other := 0, 0
	for i := range 6000 {
		g := defended(rng)
		if i%2 == 0 {
			g = randomGround(rng, small)
		}
		plan := randomPlan(rng, g)
		earliest, _ := askTimes(t, g, plan)
		l := misled(rng, earliest)
		if !askProves(t, g, plan, l) {
			continue
		}
		proved++
		for site, since := range really(rng, g, plan) {
			if since >= 0 && (l[site] < 0 || since < parts*l[site]) {
				t.Fatal(g, plan, l, site, since)
			}
		}
		if !slices.Equal(l, earliest) {
			other++
		}
	}
	if proved < 2000 || other < 500 {
		t.Error(proved, other)
	}
}

// With the plan that Save tells the sites are kept, and the gang is nowhere overtaken, however fast the fire is; and no allowed plan with fewer strips keeps them.
func TestSavedIsKept(t *testing.T) {
	rng := rand.New(rand.NewSource(164))
	seen := map[int]int{}
	for i := range 1500 {
		g := defended(rng)
		if i%3 == 0 {
			g = randomGround(rng, some)
		}
		sites, time := randomSites(rng, g), between(rng, 5, 60)
		plan, found := askSave(t, g, sites, time)
		if !found {
			continue
		}
		seen[len(plan)]++
		if at := askAllowed(t, g, plan); at != -1 {
			t.Fatal(g, plan, at)
		}
		for range 3 {
			since := really(rng, g, plan)
			for _, site := range sites {
				if since[site] >= 0 && since[site] <= parts*time {
					t.Fatal("not kept", g, sites, time, plan, since)
				}
			}
			for k, cleared := range gone(g, plan) {
				if n := since[g.Strips[plan[k]].Site]; n >= 0 && n < parts*cleared {
					t.Fatal("overtaken", g, sites, time, plan, since)
				}
			}
		}
		for _, other := range allPlans(g) {
			if len(other) >= len(plan) {
				break
			}
			if isKept(g, other, sites, time) {
				t.Fatal("fewer", g, sites, time, plan, other)
			}
		}
	}
	if seen[0] < 200 || seen[1] < 100 || seen[2] < 20 {
		t.Error(seen)
	}
}
