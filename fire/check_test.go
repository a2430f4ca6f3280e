package fire_test

import (
	"math"
	"slices"
	"strings"
	"testing"

	"thatch/api"
	"thatch/fire"
)

// P9.1 (Check).

// check is the example with something else in it, and what is wrong with it.
type check struct {
	name string
	do   func(g *api.Ground)
	want api.Errno
}

func checkAll(t *testing.T, list []check) {
	t.Helper()
	for _, c := range list {
		if e := fire.Check(changed(c.do)); e != c.want {
			t.Errorf("%s: %d, not %d", c.name, e, c.want)
		}
	}
}

func TestCheckSites(t *testing.T) {
	named := func(name string) func(g *api.Ground) { return func(g *api.Ground) { g.Sites[1] = name } }
	many := func(count int) func(g *api.Ground) { return func(g *api.Ground) { g.Sites = names(count) } }
	checkAll(t, []check{
		{"as it is", func(g *api.Ground) {}, api.OK},
		{"nothing", func(g *api.Ground) { *g = api.Ground{} }, api.OK},
		{"only sites", func(g *api.Ground) { *g = api.Ground{Sites: names(3)} }, api.OK},
		{"24 sites", many(24), api.OK},
		{"25 sites", many(25), api.ErrLimit},
		{"25 sites without names", func(g *api.Ground) { g.Sites = make([]string, 25) }, api.ErrLimit},
		{"another name", named("x-1"), api.OK},
		{"no name", named(""), api.ErrName},
		{"a name of 16", named(strings.Repeat("b", 16)), api.OK},
		{"a name of 17", named(strings.Repeat("b", 17)), api.ErrName},
		{"a digit first", named("1a"), api.ErrName},
		{"a great letter", named("B"), api.ErrName},
		{"a blank", named("b b"), api.ErrName},
		{"the name of one ahead", named("a"), api.ErrTwice},
		{"the name of one behind", named("c"), api.ErrTwice},
		{"the name of a strip", named("gap"), api.OK},
		{"twice, and a bad name behind it", func(g *api.Ground) { g.Sites[1], g.Sites[2] = "a", "C" }, api.ErrTwice},
		{"bad names twice", func(g *api.Ground) { g.Sites[1], g.Sites[2] = "C", "C" }, api.ErrName},
	})
}

func TestCheckPaths(t *testing.T) {
	be := func(p api.Path) func(g *api.Ground) { return func(g *api.Ground) { g.Paths[1] = p } }
	many := func(p api.Path, count int) func(g *api.Ground) {
		return func(g *api.Ground) { g.Paths = slices.Repeat([]api.Path{p}, count) }
	}
	checkAll(t, []check{
		{"64 paths", many(path(0, 1, 1, 1), 64), api.OK},
		{"65 paths", many(path(0, 1, 1, 1), 65), api.ErrLimit},
		{"65 bad paths", many(path(9, 9, 0, 0), 65), api.ErrLimit},
		{"no path, and strips with paths", func(g *api.Ground) { g.Paths = nil }, api.ErrNone},
		{"the same path again", be(path(0, 1, 10, 20)), api.OK},
		{"the way back", be(path(2, 0, 10, 20)), api.OK},
		{"from -1", be(path(-1, 2, 5, 5)), api.ErrNone},
		{"from 3", be(path(3, 2, 5, 5)), api.ErrNone},
		{"from the least", be(path(math.MinInt, 2, 5, 5)), api.ErrNone},
		{"to -1", be(path(1, -1, 5, 5)), api.ErrNone},
		{"to 3", be(path(1, 3, 5, 5)), api.ErrNone},
		{"to the greatest", be(path(1, math.MaxInt, 5, 5)), api.ErrNone},
		{"from none to itself", be(path(3, 3, 5, 5)), api.ErrNone},
		{"to none, in no time", be(path(1, 3, 0, 0)), api.ErrNone},
		{"from itself", be(path(1, 1, 5, 5)), api.ErrArg},
		{"1 to 1", be(path(1, 2, 1, 1)), api.OK},
		{"0 to 5", be(path(1, 2, 0, 5)), api.ErrArg},
		{"-5 to 5", be(path(1, 2, -5, 5)), api.ErrArg},
		{"5 to 4", be(path(1, 2, 5, 4)), api.ErrArg},
		{"1 to 10000", be(path(1, 2, 1, 10000)), api.OK},
		{"10000 to 10000", be(path(1, 2, 10000, 10000)), api.OK},
		{"1 to 10001", be(path(1, 2, 1, 10001)), api.ErrArg},
		{"1 to the greatest", be(path(1, 2, 1, math.MaxInt)), api.ErrArg},
		{"the least to the greatest", be(path(1, 2, math.MinInt, math.MaxInt)), api.ErrArg},
	})
}

func TestCheckStrips(t *testing.T) {
	be := func(s api.Strip) func(g *api.Ground) { return func(g *api.Ground) { g.Strips[1] = s } }
	many := func(count int) func(g *api.Ground) {
		return func(g *api.Ground) {
			g.Strips = nil
			for _, name := range names(count) {
				g.Strips = append(g.Strips, strip(name, 0, 0, 0))
			}
		}
	}
	checkAll(t, []check{
		{"5 strips", many(5), api.OK},
		{"6 strips", many(6), api.ErrLimit},
		{"6 bad strips", func(g *api.Ground) { g.Strips = make([]api.Strip, 6) }, api.ErrLimit},
		{"no name", be(strip("", 2, 8, 10, 2)), api.ErrName},
		{"a name of 17", be(strip(strings.Repeat("b", 17), 2, 8, 10, 2)), api.ErrName},
		{"the name of one ahead", be(strip("gap", 2, 8, 10, 2)), api.ErrTwice},
		{"the name of a site", be(strip("a", 2, 8, 10, 2)), api.OK},
		{"site -1", be(strip("x", -1, 8, 10, 2)), api.ErrNone},
		{"site 3", be(strip("x", 3, 8, 10, 2)), api.ErrNone},
		{"at -1", be(strip("x", 2, -1, 10, 2)), api.ErrArg},
		{"at 0", be(strip("x", 2, 0, 10, 2)), api.OK},
		{"at 10000", be(strip("x", 2, 10000, 10, 2)), api.OK},
		{"at 10001", be(strip("x", 2, 10001, 10, 2)), api.ErrArg},
		{"at the least", be(strip("x", 2, math.MinInt, 10, 2)), api.ErrArg},
		{"work -1", be(strip("x", 2, 8, -1, 2)), api.ErrArg},
		{"work 0", be(strip("x", 2, 8, 0, 2)), api.OK},
		{"work 10000", be(strip("x", 2, 8, 10000, 2)), api.OK},
		{"work 10001", be(strip("x", 2, 8, 10001, 2)), api.ErrArg},
		{"work the greatest", be(strip("x", 2, 8, math.MaxInt, 2)), api.ErrArg},
		{"no paths", be(strip("x", 2, 8, 10)), api.OK},
		{"all paths", be(strip("x", 2, 8, 10, 0, 1, 2)), api.OK},
		{"paths of another one", be(strip("x", 2, 8, 10, 1)), api.OK},
		{"a path twice", be(strip("x", 2, 8, 10, 1, 1)), api.ErrArg},
		{"paths that fall", be(strip("x", 2, 8, 10, 0, 2, 1)), api.ErrArg},
		{"path 3", be(strip("x", 2, 8, 10, 0, 3)), api.ErrNone},
		{"path -1", be(strip("x", 2, 8, 10, -1, 0)), api.ErrNone},
		{"no path twice", be(strip("x", 2, 8, 10, 3, 3)), api.ErrArg},
		{"no site, and a path twice", be(strip("x", 3, 8, 10, 1, 1)), api.ErrNone},
		{"no name, and no site", be(strip("", 3, 8, 10)), api.ErrName},
		{"twice, and no site", be(strip("gap", 3, 8, 10)), api.ErrTwice},
	})
}

func TestCheckSparksAndBase(t *testing.T) {
	be := func(list ...api.Spark) func(g *api.Ground) { return func(g *api.Ground) { g.Sparks = list } }
	base := func(n int) func(g *api.Ground) { return func(g *api.Ground) { g.Base = n } }
	checkAll(t, []check{
		{"no spark", be(), api.OK},
		{"the same spark twice", be(spark(0, 5), spark(0, 5)), api.OK},
		{"24 sparks", be(slices.Repeat([]api.Spark{spark(1, 7)}, 24)...), api.OK},
		{"25 sparks", be(slices.Repeat([]api.Spark{spark(1, 7)}, 25)...), api.ErrLimit},
		{"25 bad sparks", be(slices.Repeat([]api.Spark{spark(-1, -1)}, 25)...), api.ErrLimit},
		{"site -1", be(spark(0, 0), spark(-1, 0)), api.ErrNone},
		{"site 3", be(spark(3, 0)), api.ErrNone},
		{"time -1", be(spark(0, -1)), api.ErrArg},
		{"time 100000", be(spark(0, 100000)), api.OK},
		{"time 100001", be(spark(0, 100001)), api.ErrArg},
		{"site 3, time -1", be(spark(3, -1)), api.ErrNone},
		{"a bad time, and a bad site behind it", be(spark(0, -1), spark(3, 0)), api.ErrArg},
		{"base -1", base(-1), api.ErrArg},
		{"base 10000", base(10000), api.OK},
		{"base 10001", base(10001), api.ErrArg},
		{"base the least", base(math.MinInt), api.ErrArg},
	})
	if e := fire.Check(full()); e != api.OK {
		t.Error(e)
	}
}

// faults are what may be wrong with the example, in the order in which it is found.
func faults() []check {
	return []check{
		{"25 sites", func(g *api.Ground) { g.Sites = append(g.Sites, names(25)[3:]...) }, api.ErrLimit},
		{"a bad site", func(g *api.Ground) { g.Sites[0] = "A" }, api.ErrName},
		{"a site twice", func(g *api.Ground) { g.Sites[2] = g.Sites[1] }, api.ErrTwice},
		{"65 paths", func(g *api.Ground) { g.Paths = append(g.Paths, slices.Repeat(g.Paths[2:], 62)...) }, api.ErrLimit},
		{"a path from nowhere", func(g *api.Ground) { g.Paths[0].From = 30 }, api.ErrNone},
		{"a path in no time", func(g *api.Ground) { g.Paths[0].Time.Low = 0 }, api.ErrArg},
		{"a path to nowhere", func(g *api.Ground) { g.Paths[1].To = -1 }, api.ErrNone},
		{"6 strips", func(g *api.Ground) {
			for _, name := range names(4) {
				g.Strips = append(g.Strips, strip(name, 0, 0, 0))
			}
		}, api.ErrLimit},
		{"a bad strip", func(g *api.Ground) { g.Strips[0].Name = "Gap" }, api.ErrName},
		{"a strip twice", func(g *api.Ground) { g.Strips[1].Name = g.Strips[0].Name }, api.ErrTwice},
		{"a strip nowhere", func(g *api.Ground) { g.Strips[1].Site = 30 }, api.ErrNone},
		{"a strip far off", func(g *api.Ground) { g.Strips[1].At = -1 }, api.ErrArg},
		{"a strip with a path twice", func(g *api.Ground) { g.Strips[1].Paths = append(list(2), g.Strips[1].Paths...) }, api.ErrArg},
		{"a strip with no path", func(g *api.Ground) { g.Strips[1].Paths = append(g.Strips[1].Paths, 70) }, api.ErrNone},
		{"25 sparks", func(g *api.Ground) { g.Sparks = append(g.Sparks, make([]api.Spark, 24)...) }, api.ErrLimit},
		{"a spark nowhere", func(g *api.Ground) { g.Sparks[0].Site = 30 }, api.ErrNone},
		{"a spark before all", func(g *api.Ground) { g.Sparks[0].Time = -1 }, api.ErrArg},
		{"a base far off", func(g *api.Ground) { g.Base = -1 }, api.ErrArg},
	}
}

func TestCheckOrder(t *testing.T) {
	checkAll(t, faults())
	for i, first := range faults() {
		for _, second := range faults()[i+1:] {
			both := func(a, b check) check {
				return check{a.name + ", " + b.name, func(g *api.Ground) { a.do(g); b.do(g) }, first.want}
			}
			checkAll(t, []check{both(first, second), both(second, first)})
		}
	}
}

// All functions that are given a ground have Check's error first, and those that are given a plan its error then.
func TestErrorsOfGroundsAndPlans(t *testing.T) {
	calls := func(g api.Ground, plan []int) []api.Errno {
		_, cleared := fire.Cleared(g, plan)
		_, _, times := fire.Times(g, plan)
		_, allowed := fire.Allowed(g, plan)
		_, _, burning := fire.Burning(g, plan, -1)
		_, _, way := fire.Way(g, plan, -1)
		_, proves := fire.Proves(g, plan, nil)
		return []api.Errno{cleared, times, allowed, burning, way, proves}
	}
	for _, c := range faults() {
		g := changed(c.do)
		_, _, save := fire.Save(g, list(-1), -1)
		_, print := fire.Print(g)
		for i, e := range append(calls(g, list(9, 9)), save, print) {
			if e != c.want {
				t.Error(c.name, i, e, c.want)
			}
		}
	}
	for _, c := range []struct {
		plan []int
		want api.Errno
	}{
		{list(2), api.ErrNone},
		{list(-1), api.ErrNone},
		{list(math.MinInt), api.ErrNone},
		{list(math.MaxInt), api.ErrNone},
		{list(0, 2), api.ErrNone},
		{list(0, 0), api.ErrTwice},
		{list(1, 1), api.ErrTwice},
		{list(0, 1, 0), api.ErrTwice},
		{list(0, 0, 2), api.ErrTwice},
		{list(0, 2, 0), api.ErrNone},
		{list(2, 2), api.ErrNone},
		{make([]int, 1<<20), api.ErrTwice},
	} {
		for i, e := range calls(example(), c.plan) {
			if e != c.want {
				t.Error(c.plan[:min(3, len(c.plan))], i, e, c.want)
			}
		}
	}
	for i, e := range calls(api.Ground{}, list(0)) {
		if e != api.ErrNone {
			t.Error(i, e)
		}
	}
}
