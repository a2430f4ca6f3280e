package fire_test

import (
	"math"
	"math/rand"
	"slices"
	"testing"

	"thatch/api"
	"thatch/fire"
)

// P9.3 (Way, Proves).

func TestWay(t *testing.T) {
	low := func(n int) api.Ground { return changed(func(g *api.Ground) { g.Paths[2].Time.Low = n }) }
	sparks := func(list ...api.Spark) api.Ground { return changed(func(g *api.Ground) { g.Sparks = list }) }
	twice := burning(4, path(2, 3, 1, 9), path(0, 2, 1, 1), path(1, 3, 1, 1), path(0, 1, 1, 5), path(0, 2, 1, 1))
	long := burning(4, path(0, 1, 1, 1), path(1, 2, 1, 1), path(2, 3, 1, 1), path(0, 2, 2, 2))
	for _, c := range []struct {
		name  string
		g     api.Ground
		plan  []int
		site  int
		want  []int
		found bool
	}{
		{"the example", example(), nil, 2, list(0, 1), true},
		{"a path", example(), nil, 1, list(0), true},
		{"where the spark is", example(), nil, 0, nil, true},
		{"with gap", example(), list(0), 2, list(2), true},
		{"with gap and lane", example(), list(0, 1), 2, nil, false},
		{"slower, but fewer paths", low(16), nil, 2, list(0, 1), true},
		{"as fast by fewer paths", low(15), nil, 2, list(2), true},
		{"faster by fewer paths", low(14), nil, 2, list(2), true},
		{"no spark", sparks(), nil, 0, nil, false},
		{"a spark just when fire comes", sparks(spark(0, 0), spark(2, 15)), nil, 2, nil, true},
		{"a spark later than fire comes", sparks(spark(0, 0), spark(2, 16)), nil, 2, list(0, 1), true},
		{"a spark earlier than fire comes", sparks(spark(0, 0), spark(2, 14)), nil, 2, nil, true},
		{"a spark on the way just when fire comes", sparks(spark(0, 0), spark(1, 10)), nil, 2, list(1), true},
		{"a spark on the way later than fire comes", sparks(spark(0, 0), spark(1, 11)), nil, 2, list(0, 1), true},
		{"from the second spark", sparks(spark(2, 9), spark(0, 3)), nil, 1, list(0), true},
		{"the least of four ways", twice, nil, 3, list(1, 0), true},
		{"the least of two paths", twice, nil, 2, list(1), true},
		{"fewer paths on the way", long, nil, 3, list(3, 2), true},
		{"where no path leads", burning(2), nil, 1, nil, false},
	} {
		if paths, found := askWay(t, c.g, c.plan, c.site); !slices.Equal(paths, c.want) || found != c.found {
			t.Error(c.name, paths, found)
		}
	}
	for _, site := range []int{-1, 3, math.MinInt, math.MaxInt} {
		if paths, found, e := fire.Way(example(), list(0), site); e != api.ErrNone || found || paths != nil {
			t.Error(site, paths, found, e)
		}
	}
	if paths, found, e := fire.Way(api.Ground{}, nil, 0); e != api.ErrNone || found || paths != nil {
		t.Error(paths, found, e)
	}
}

// even is a random ground with so short paths that many ways are as fast.
func even(rng *rand.Rand) api.Ground {
	s := small
	s.burn, s.clock = 3, 4
	return randomGround(rng, s)
}

func TestWayWalked(t *testing.T) {
	rng := rand.New(rand.NewSource(153))
	seen := map[int]int{}
	for i := range 3000 {
		g := even(rng)
		if i%3 == 0 {
			g = randomGround(rng, small)
		}
		plan := randomPlan(rng, g)
		for site := range g.Sites {
			paths, found := askWay(t, g, plan, site)
			want, ok := walked(g, plan, site)
			if found != ok || !slices.Equal(paths, want) {
				t.Fatal(g, plan, site, paths, found, want, ok)
			}
			if found {
				seen[len(paths)]++
			} else {
				seen[-1]++
			}
		}
	}
	if seen[-1] < 500 || seen[0] < 500 || seen[1] < 500 || seen[2] < 500 || seen[3] < 100 {
		t.Error(seen)
	}
}

// proof is a list, and whether it proves something.
type proof struct {
	name string
	list []int
	want bool
}

func proveAll(t *testing.T, g api.Ground, plan []int, all []proof) {
	t.Helper()
	for _, c := range all {
		if yes := askProves(t, g, plan, c.list); yes != c.want {
			t.Error(c.name, yes)
		}
	}
}

func TestProves(t *testing.T) {
	proveAll(t, example(), nil, []proof{
		{"as it is", list(0, 10, 15), true},
		{"a later", list(1, 10, 15), false},
		{"a never", list(-1, 10, 15), false},
		{"b later", list(0, 11, 15), false},
		{"b never", list(0, -1, 15), false},
		{"c later", list(0, 10, 16), false},
		{"c never", list(0, 10, -1), false},
		{"all never", list(-1, -1, -1), false},
		{"b earlier, but c is not", list(0, 9, 15), false},
		{"b earlier", list(0, 9, 14), true},
		{"c earlier", list(0, 10, 0), true},
		{"all at once", list(0, 0, 0), true},
		{"empty", nil, false},
		{"too short", list(0, 10), false},
		{"too long", list(0, 10, 15, 20), false},
		{"-2", list(0, 10, -2), false},
		{"the least", list(0, math.MinInt, 15), false},
		{"the greatest", list(0, 10, math.MaxInt), false},
	})
	late := changed(func(g *api.Ground) { g.Sparks = []api.Spark{spark(1, 30), spark(1, 20)} })
	proveAll(t, late, nil, []proof{
		{"as it is", list(-1, 20, 25), true},
		{"a site to which nothing leads burns", list(10, 20, 25), true},
		{"a site to which nothing leads burns too early", list(9, 20, 25), false},
		{"a site to which nothing leads burns late", list(1000000, 20, 25), true},
		{"a site to which nothing leads burns too late", list(1000001, 20, 25), false},
		{"between the sparks", list(-1, 21, 25), false},
		{"before the sparks", list(-1, 0, 5), true},
		{"after the sparks", list(-1, 31, 25), false},
		{"never", list(-1, -1, -1), false},
	})
	unlit := changed(func(g *api.Ground) { g.Sparks = nil })
	proveAll(t, unlit, nil, []proof{
		{"never", list(-1, -1, -1), true},
		{"c late", list(-1, -1, 1000000), true},
		{"c too late", list(-1, -1, 1000001), false},
		{"c too late for any list", list(-1, -1, math.MaxInt), false},
		{"b late", list(-1, 1000000, 1000000), true},
		{"c never behind b", list(-1, 1000000, -1), false},
	})
	proveAll(t, api.Ground{}, nil, []proof{{"nothing", nil, true}, {"something of nothing", list(0), false}})
	proveAll(t, example(), nil, []proof{{"very long", make([]int, 1<<20), false}})
}

func TestProvesPlans(t *testing.T) {
	// The path from b to c is cleared at 7, with lane that from a to c at 22.
	proveAll(t, example(), list(0), []proof{
		{"as it is", list(0, 10, 40), true},
		{"c later", list(0, 10, 41), false},
		{"c never", list(0, 10, -1), false},
		{"so early that it is not cleared", list(0, 2, 40), false},
		{"so early that it is not cleared, but that is told", list(0, 2, 7), true},
		{"just so early that it is cleared", list(0, 3, 40), true},
		{"without a plan", list(0, 10, 15), true},
	})
	proveAll(t, example(), list(0, 1), []proof{
		{"as it is", list(0, 10, -1), true},
		{"c late", list(0, 10, 1000000), true},
		{"c so early that it is lit by none", list(0, 10, 0), true},
		{"b never", list(0, -1, -1), false},
	})
	proveAll(t, example(), list(1, 0), []proof{
		{"as it is", list(0, 10, 15), true},
		{"as if it was allowed", list(0, 10, -1), false},
	})
}

// misled is a list with some numbers changed.
func misled(rng *rand.Rand, l []int) []int {
	l = slices.Clone(l)
	for range rng.Intn(3) {
		if len(l) == 0 {
			break
		}
		i := rng.Intn(len(l))
		switch rng.Intn(6) {
		case 0:
			l[i] = -1
		case 1:
			l[i] = rng.Intn(30)
		case 2:
			l[i]++
		default:
			l[i] -= rng.Intn(3)
		}
	}
	if rng.Intn(30) == 0 {
		l = append(l, 0)
	}
	return l
}

func TestProvesRandom(t *testing.T) {
	rng := rand.New(rand.NewSource(154))
	seen := map[bool]int{}
	for range 6000 {
		g := randomGround(rng, small)
		plan := randomPlan(rng, g)
		l, _ := askTimes(t, g, plan)
		l = misled(rng, l)
		want := isProof(g, plan, l)
		if yes := askProves(t, g, plan, l); yes != want {
			t.Fatal(g, plan, l, yes)
		}
		seen[want]++
	}
	if seen[true] < 1000 || seen[false] < 1000 {
		t.Error(seen)
	}
}
