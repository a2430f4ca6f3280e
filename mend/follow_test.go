package mend_test

import (
	"math"
	"math/rand"
	"testing"

	"thatch/api"
	"thatch/mend"
)

// P8.1 (Follow).

// followed is a plan, and what comes of it.
type followed struct {
	name     string
	w        api.Works
	plan     [][]int
	thick    [][]int
	cost, at int
}

func followAll(t *testing.T, list []followed) {
	t.Helper()
	for _, c := range list {
		thick, cost, at := askFollow(t, c.w, c.plan)
		if !sameLists(thick, c.thick) || cost != c.cost || at != c.at {
			t.Error(c.name, thick, cost, at)
		}
	}
}

func TestFollow(t *testing.T) {
	followAll(t, []followed{
		{"nothing", example(), plan(row(-1), row(-1), row(-1)), plan(row(35), row(20)), 0, 1},
		{"add twice", example(), plan(row(-1), row(0), row(0)), plan(row(35), row(40), row(45)), 48, -1},
		{"no more than Full", example(), plan(row(0), row(-1), row(0)), plan(row(45), row(30), row(35)), 48, -1},
		{"anew", example(), plan(row(1), row(-1), row(0)), plan(row(45), row(30), row(35)), 94, -1},
		{"not in the last year", example(), plan(row(0), row(-1), row(-1)), plan(row(45), row(30), row(15)), 24, 2},
		{"no slope that is mended in the year is kept", changed(func(w *api.Works) { w.Slopes[0].Now = 10 }), plan(row(0), row(1), row(0)), plan(row(15)), 24, 0},
		{"just as thick as needed", changed(func(w *api.Works) { w.Slopes[0].Now = 45 }), plan(row(-1), row(0), row(-1)), plan(row(30), row(35), row(20)), 24, 2},
	})
}

func TestFollowYears(t *testing.T) {
	idle := plan(row(-1), row(-1), row(-1), row(-1), row(-1))
	takes := func(n ...int) api.Works { return works(5, 10, 1, nil, slope(90, 0, 100, 1, n...)) }
	followAll(t, []followed{
		{"no years", changed(func(w *api.Works) { w.Years = 0 }), nil, nil, 0, -1},
		{"no years, thinner than needed", works(0, 10, 1, nil, slope(0, 100, 100, 1)), nil, nil, 0, -1},
		{"no Takes", takes(), idle, plan(row(90), row(90), row(90), row(90), row(90)), 0, -1},
		{"Takes again and again", takes(1, 20), idle, plan(row(89), row(69), row(68), row(48), row(47)), 0, -1},
		{"more Takes than years", takes(1, 2, 3, 4, 5, 60), idle, plan(row(89), row(87), row(84), row(80), row(75)), 0, -1},
		{"no less than 0", takes(50), idle, plan(row(40), row(0), row(0), row(0), row(0)), 0, -1},
		{"one year", works(1, 10, 1, nil, slope(90, 50, 100, 1, 41)), plan(row(-1)), plan(row(49)), 0, 0},
	})
}

func TestFollowSlopes(t *testing.T) {
	two := works(2, 100, 2, crafts(add(5, 3), strip(7)), slope(20, 10, 30, 2, 10), slope(40, 10, 50, 10, 20))
	followAll(t, []followed{
		{"one visit for both", two, plan(row(0, 1), row(-1, 0)), plan(row(15, 30), row(5, 15)), 100 + 6 + 70 + 100 + 30, 1},
		{"the second one is not kept", two, plan(row(-1, -1), row(0, -1)), plan(row(10, 20), row(5, 0)), 106, 1},
		{"both are", two, plan(row(-1, -1), row(1, 1)), plan(row(10, 20), row(20, 30)), 184, -1},
		{"in other years", two, plan(row(-1, 0), row(1, -1)), plan(row(10, 25), row(20, 5)), 244, 1},
		{"what costs nothing has its visit", works(1, 9, 1, crafts(add(0, 0)), slope(1, 0, 1, 1)), plan(row(0)), plan(row(1)), 9, -1},
	})
}

func TestFollowErrors(t *testing.T) {
	one := works(2, 10, 1, crafts(add(5, 3)), slope(9, 0, 9, 1), slope(9, 0, 9, 1))
	for _, c := range []struct {
		w    api.Works
		plan [][]int
		want api.Errno
	}{
		{one, nil, api.ErrArg},
		{one, plan(row(-1, -1)), api.ErrArg},
		{one, plan(row(-1, -1), row(-1, -1)), api.OK},
		{one, plan(row(-1, -1), row(-1, -1), row(-1, -1)), api.ErrArg},
		{one, plan(row(-1), row(-1, -1)), api.ErrArg},
		{one, plan(row(-1, -1), nil), api.ErrArg},
		{one, plan(row(-1, -1), row(-1, -1, -1)), api.ErrArg},
		{one, plan(row(-1, -1), row(-1, -1, -1, -1, -1)), api.ErrArg},
		{one, plan(row(0, -1), row(-1, 0)), api.OK},
		{one, plan(row(0, -1), row(0, 0)), api.ErrArg},
		{one, plan(row(0, -1), row(1, -1)), api.ErrArg},
		{one, plan(row(0, -1), row(-1, -2)), api.ErrArg},
		{one, plan(row(0, -1), row(-1, math.MinInt)), api.ErrArg},
		{one, plan(row(math.MaxInt, -1), row(-1, -1)), api.ErrArg},
		{changed(func(w *api.Works) { w.Crafts = nil }), plan(row(-1), row(0), row(-1)), api.ErrArg},
		{changed(func(w *api.Works) { w.Hands = 0 }), plan(row(-1), row(0), row(-1)), api.ErrArg},
		{changed(func(w *api.Works) { w.Years = 0 }), plan(row(-1)), api.ErrArg},
		// a row that may not be is seen behind a year in which the slope is not kept
		{example(), plan(row(-1), row(-1), row(2)), api.ErrArg},
		{changed(func(w *api.Works) { w.Slopes[0].Takes = make([]int, 13) }), nil, api.ErrLimit},
	} {
		thick, cost, at, e := mend.Follow(c.w, c.plan)
		if e != c.want || e != api.OK && (len(thick) > 0 || cost != 0 || at != 0) {
			t.Error(c.w, c.plan, thick, cost, at, e)
		}
	}
}

func TestFollowRandom(t *testing.T) {
	rng := rand.New(rand.NewSource(130))
	kept := 0
	for range 3000 {
		w := randomWorks(rng, 4, 4, 8)
		p := randomPlan(rng, w)
		want, sum, year := [][]int(nil), 0, -1
		left := now(w)
		for y, r := range p {
			next, cost, ok := lived(w, y, left, r)
			want, sum, left = append(want, next), sum+cost, next
			if !ok {
				year = y
				break
			}
		}
		thick, cost, at := askFollow(t, w, p)
		if !sameLists(thick, want) || cost != sum || at != year {
			t.Fatal(w, p, thick, cost, at, want, sum, year)
		}
		if at < 0 {
			kept++
		}
	}
	if kept < 300 || kept > 2700 {
		t.Error(kept)
	}
}
