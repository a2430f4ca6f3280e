package yard_test

import (
	"math"
	"math/rand"
	"slices"
	"strings"
	"testing"

	"thatch/api"
	"thatch/yard"
)

// P10.1 (CheckCrew, Takes, Fastest, Bound).

func list(numbers ...int) []int { return numbers }

func task(name string, days, men, ladders int, after ...int) api.Task {
	return api.Task{Name: name, Days: days, Men: men, Ladders: ladders, After: after}
}

func crew(men, ladders int, tasks ...api.Task) api.Crew {
	return api.Crew{Men: men, Ladders: ladders, Tasks: tasks}
}

// example is the crew of the document's examples.
func example() api.Crew {
	return crew(2, 1, task("strip", 2, 2, 1), task("lay", 3, 1, 1, 0), task("comb", 2, 1, 0))
}

// tasks is so many tasks that take one day each, by themselves.
func tasks(count int) []api.Task {
	var list []api.Task
	for i := range count {
		list = append(list, task(string(rune('a'+i)), 1, 1, 1))
	}
	return list
}

func TestCheckCrew(t *testing.T) {
	for _, c := range []struct {
		name string
		do   func(c *api.Crew)
		want api.Errno
	}{
		{"as it is", func(c *api.Crew) {}, api.OK},
		{"Men -1", func(c *api.Crew) { c.Men = -1 }, api.ErrArg},
		{"Men 100", func(c *api.Crew) { c.Men = 100 }, api.OK},
		{"Men 101", func(c *api.Crew) { c.Men = 101 }, api.ErrArg},
		{"the least Men", func(c *api.Crew) { c.Men = math.MinInt }, api.ErrArg},
		{"Ladders -1", func(c *api.Crew) { c.Ladders = -1 }, api.ErrArg},
		{"Ladders 100", func(c *api.Crew) { c.Ladders = 100 }, api.OK},
		{"Ladders 101", func(c *api.Crew) { c.Ladders = 101 }, api.ErrArg},
		{"the greatest Ladders", func(c *api.Crew) { c.Ladders = math.MaxInt }, api.ErrArg},
		{"nobody, nothing to do", func(c *api.Crew) { *c = api.Crew{} }, api.OK},
		{"nobody, and what needs nobody", func(c *api.Crew) { *c = crew(0, 0, task("a", 12, 0, 0)) }, api.OK},
		{"nobody", func(c *api.Crew) { c.Men, c.Ladders = 0, 0 }, api.ErrScope},
		{"6 tasks", func(c *api.Crew) { c.Tasks = tasks(6) }, api.OK},
		{"7 tasks", func(c *api.Crew) { c.Tasks = tasks(7) }, api.ErrLimit},
		{"7 tasks that may not be", func(c *api.Crew) { c.Tasks = make([]api.Task, 7) }, api.ErrLimit},
		{"7 tasks, Men 101", func(c *api.Crew) { c.Men, c.Tasks = 101, tasks(7) }, api.ErrArg},
		{"7 tasks, Ladders 101", func(c *api.Crew) { c.Ladders, c.Tasks = 101, tasks(7) }, api.ErrArg},
		{"no name", func(c *api.Crew) { c.Tasks[1].Name = "" }, api.ErrName},
		{"a name that is none", func(c *api.Crew) { c.Tasks[1].Name = "Lay" }, api.ErrName},
		{"a name of 16 bytes", func(c *api.Crew) { c.Tasks[1].Name = strings.Repeat("a", 16) }, api.OK},
		{"a name of 17 bytes", func(c *api.Crew) { c.Tasks[1].Name = strings.Repeat("a", 17) }, api.ErrName},
		{"the name of one before", func(c *api.Crew) { c.Tasks[2].Name = "strip" }, api.ErrTwice},
		{"the name of one before, Days 0", func(c *api.Crew) { c.Tasks[2].Name, c.Tasks[2].Days = "strip", 0 }, api.ErrTwice},
		{"Days 0", func(c *api.Crew) { c.Tasks[1].Days = 0 }, api.ErrArg},
		{"Days 1", func(c *api.Crew) { c.Tasks[1].Days = 1 }, api.OK},
		{"Days 12", func(c *api.Crew) { c.Tasks[1].Days = 12 }, api.OK},
		{"Days 13", func(c *api.Crew) { c.Tasks[1].Days = 13 }, api.ErrArg},
		{"the greatest Days", func(c *api.Crew) { c.Tasks[1].Days = math.MaxInt }, api.ErrArg},
		{"a task's Men -1", func(c *api.Crew) { c.Tasks[1].Men = -1 }, api.ErrArg},
		{"a task's Men as many as there are", func(c *api.Crew) { c.Tasks[1].Men = 2 }, api.OK},
		{"a task's Men one more", func(c *api.Crew) { c.Tasks[1].Men = 3 }, api.ErrScope},
		{"a task's Men 101", func(c *api.Crew) { c.Tasks[1].Men = 101 }, api.ErrArg},
		{"a task's Ladders -1", func(c *api.Crew) { c.Tasks[1].Ladders = -1 }, api.ErrArg},
		{"a task's Ladders one more", func(c *api.Crew) { c.Tasks[1].Ladders = 2 }, api.ErrScope},
		{"a task's Ladders 101", func(c *api.Crew) { c.Tasks[1].Ladders = 101 }, api.ErrArg},
		{"too many Men, Ladders 101", func(c *api.Crew) { c.Tasks[1].Men, c.Tasks[1].Ladders = 3, 101 }, api.ErrArg},
		{"too many Men, After that falls", func(c *api.Crew) { c.Tasks[2].Men, c.Tasks[2].After = 3, list(1, 0) }, api.ErrScope},
		{"After all", func(c *api.Crew) { c.Tasks[2].After = list(0, 1) }, api.OK},
		{"After that falls", func(c *api.Crew) { c.Tasks[2].After = list(1, 0) }, api.ErrArg},
		{"After twice the same", func(c *api.Crew) { c.Tasks[2].After = list(1, 1) }, api.ErrArg},
		{"After that falls, of tasks that are none", func(c *api.Crew) { c.Tasks[2].After = list(9, 8) }, api.ErrArg},
		{"After itself", func(c *api.Crew) { c.Tasks[1].After = list(1) }, api.ErrNone},
		{"After a later one", func(c *api.Crew) { c.Tasks[1].After = list(0, 2) }, api.ErrNone},
		{"the first one After itself", func(c *api.Crew) { c.Tasks[0].After = list(0) }, api.ErrNone},
		{"After -1", func(c *api.Crew) { c.Tasks[1].After = list(-1, 0) }, api.ErrNone},
		{"After the least", func(c *api.Crew) { c.Tasks[1].After = list(math.MinInt) }, api.ErrNone},
		{"the first wrong task counts", func(c *api.Crew) { c.Tasks[1].After, c.Tasks[2].Name = list(1), "" }, api.ErrNone},
		{"the first wrong task, later", func(c *api.Crew) { c.Tasks[2].After, c.Tasks[1].Days = list(1, 0), 13 }, api.ErrArg},
	} {
		k := example()
		c.do(&k)
		if e := yard.CheckCrew(k); e != c.want {
			t.Errorf("%s: %d", c.name, e)
		}
		_, takesError := yard.Takes(k, list(0, 2, 2))
		_, _, fastestError := yard.Fastest(k)
		_, boundError := yard.Bound(k)
		if c.want != api.OK && (takesError != c.want || fastestError != c.want || boundError != c.want) {
			t.Error(c.name, takesError, fastestError, boundError)
		}
	}
}

func TestTakes(t *testing.T) {
	long := crew(3, 3, task("a", 6, 1, 2), task("b", 2, 2, 1), task("c", 2, 1, 1), task("d", 1, 0, 0, 0, 2))
	for _, c := range []struct {
		name   string
		crew   api.Crew
		starts []int
		days   int
		e      api.Errno
	}{
		{"the fastest", example(), list(0, 2, 2), 5, api.OK},
		{"3 men on the first day", example(), list(0, 2, 0), 0, api.ErrState},
		{"3 men on the second day", example(), list(0, 2, 1), 0, api.ErrState},
		{"comb first", example(), list(2, 4, 0), 7, api.OK},
		{"comb last", example(), list(0, 2, 5), 7, api.OK},
		{"lay too early", example(), list(0, 1, 3), 0, api.ErrState},
		{"lay before strip", example(), list(5, 0, 3), 0, api.ErrState},
		{"nothing at first", example(), list(9, 11, 20), 22, api.OK},
		{"the latest", example(), list(995, 997, 1000), 1002, api.OK},
		{"later than that", example(), list(0, 2, 1001), 0, api.ErrArg},
		{"before all", example(), list(-1, 2, 2), 0, api.ErrArg},
		{"the least", example(), list(0, math.MinInt, 2), 0, api.ErrArg},
		{"the greatest", example(), list(0, 2, math.MaxInt), 0, api.ErrArg},
		{"too early, and later than the latest", example(), list(0, 0, 1001), 0, api.ErrArg},
		{"none", example(), nil, 0, api.ErrArg},
		{"too few", example(), list(0, 2), 0, api.ErrArg},
		{"too many", example(), list(0, 2, 2, 2), 0, api.ErrArg},
		{"too many, and too early", example(), list(0, 0, 0, 0), 0, api.ErrArg},
		{"no tasks", api.Crew{}, nil, 0, api.OK},
		{"no tasks, a start", crew(5, 5), list(0), 0, api.ErrArg},
		{"side by side", long, list(0, 0, 3, 6), 7, api.OK},
		{"4 men", long, list(0, 1, 2, 6), 0, api.ErrState},
		{"4 men later", long, list(2, 4, 5, 8), 0, api.ErrState},
		{"one behind the other, under the long one", long, list(0, 2, 4, 6), 7, api.OK},
		{"After two, one of them not done", long, list(0, 0, 5, 6), 0, api.ErrState},
		{"After two, the last one just done", long, list(0, 0, 5, 7), 8, api.OK},
		{"After two", long, list(0, 3, 6, 8), 9, api.OK},
		{"4 ladders", crew(9, 3, task("a", 6, 0, 2), task("b", 1, 0, 2)), list(0, 5), 0, api.ErrState},
		{"4 ladders, the last one first", crew(9, 3, task("a", 1, 0, 2), task("b", 6, 0, 2)), list(5, 0), 0, api.ErrState},
		{"2 ladders at a time", crew(9, 3, task("a", 6, 0, 2), task("b", 1, 0, 2)), list(0, 6), 7, api.OK},
		{"what needs nobody", crew(0, 0, task("a", 6, 0, 0), task("b", 7, 0, 0)), list(0, 0), 7, api.OK},
		{"all at once", crew(100, 100, task("a", 1, 50, 50), task("b", 1, 50, 50)), list(0, 0), 1, api.OK},
		{"one more than all", crew(100, 100, task("a", 1, 50, 50), task("b", 1, 51, 50)), list(0, 0), 0, api.ErrState},
	} {
		if days, e := yard.Takes(c.crew, c.starts); days != c.days || e != c.e {
			t.Errorf("%s: %d %d", c.name, days, e)
		}
	}
}

func TestTakesWatched(t *testing.T) {
	rng := rand.New(rand.NewSource(166))
	seen := map[api.Errno]int{}
	for range 5000 {
		c := randomCrew(rng, 6, 12, 4)
		starts := randomStarts(rng, c)
		days, e := yard.Takes(c, starts)
		want, ok := watched(c, starts)
		if ok != (e == api.OK) || days != want || !ok && e != api.ErrState {
			t.Fatal(c, starts, days, e, want)
		}
		seen[e]++
	}
	if seen[api.OK] < 1000 || seen[api.ErrState] < 1000 {
		t.Error(seen)
	}
}

func TestFastest(t *testing.T) {
	for _, c := range []struct {
		name   string
		crew   api.Crew
		starts []int
		days   int
	}{
		{"the example", example(), list(0, 2, 2), 5},
		{"no tasks", crew(3, 4), nil, 0},
		{"one task", crew(3, 4, task("a", 12, 3, 4)), list(0), 12},
		{"6 tasks at once", crew(6, 6, tasks(6)...), list(0, 0, 0, 0, 0, 0), 1},
		{"6 tasks by two", crew(2, 6, tasks(6)...), list(0, 0, 1, 1, 2, 2), 3},
		{"6 tasks one by one", crew(6, 1, tasks(6)...), list(0, 1, 2, 3, 4, 5), 6},
		{"the longest", crew(1, 1, slices.Collect(each(tasks(6), func(t *api.Task) { t.Days = 12 }))...), list(0, 12, 24, 36, 48, 60), 72},
		{"nobody is needed", crew(0, 0, task("a", 5, 0, 0), task("b", 7, 0, 0, 0), task("c", 12, 0, 0)), list(0, 5, 0), 12},
		{"the first one later", crew(1, 0, task("a", 1, 1, 0), task("b", 1, 1, 0), task("c", 3, 0, 0, 1)), list(1, 0, 1), 4},
		{"the first one as early as it can be", crew(1, 0, task("a", 1, 1, 0), task("b", 1, 1, 0), task("c", 3, 0, 0, 0)), list(0, 1, 1), 4},
		{"a later one ahead, as there is time", crew(1, 0, task("a", 4, 0, 0), task("b", 1, 1, 0), task("c", 2, 1, 0)), list(0, 0, 1), 4},
		{"not so early as it fits", crew(2, 0, task("a", 1, 1, 0), task("b", 2, 2, 0), task("c", 1, 1, 0), task("d", 3, 0, 0, 1)), list(2, 0, 2, 2), 5},
		{"three with three ladders of four", crew(4, 4, task("a", 2, 0, 3), task("b", 2, 0, 3), task("c", 2, 0, 2)), list(0, 2, 4), 6},
		{"into a gap", crew(3, 3, task("a", 2, 2, 0), task("b", 2, 2, 0, 0), task("c", 3, 1, 0), task("d", 1, 1, 0)), list(0, 2, 0, 3), 4},
		{"a row of 6", crew(1, 1, task("a", 1, 1, 1), task("b", 2, 1, 1, 0), task("c", 3, 1, 1, 1), task("d", 4, 1, 1, 2), task("e", 5, 1, 1, 3), task("f", 6, 1, 1, 4)), list(0, 1, 3, 6, 10, 15), 21},
	} {
		if starts, days, e := yard.Fastest(c.crew); e != api.OK || days != c.days || !slices.Equal(starts, c.starts) {
			t.Errorf("%s: %v %d %d", c.name, starts, days, e)
		}
	}
}

func TestFastestTried(t *testing.T) {
	rng := rand.New(rand.NewSource(167))
	gaps, later := 0, 0
	for i := range 1500 {
		c := randomCrew(rng, 4, 4, 4)
		if i%5 == 0 {
			c = randomCrew(rng, 6, 2, 4)
		}
		starts, days := askFastest(t, c)
		want, least := tried(c)
		if days != least || !slices.Equal(starts, want) {
			t.Fatal(c, starts, days, want, least)
		}
		if b := askBound(t, c); b > days {
			t.Fatal(c, b, days)
		} else if b < days {
			gaps++
		}
		if len(starts) > 1 && starts[0] > 0 {
			later++
		}
	}
	if gaps < 100 || later < 15 {
		t.Error(gaps, later)
	}
}

func TestBound(t *testing.T) {
	for _, c := range []struct {
		name string
		crew api.Crew
		want int
	}{
		{"the example", example(), 5},
		{"no tasks", crew(3, 4), 0},
		{"nobody", api.Crew{}, 0},
		{"nobody is needed", crew(0, 0, task("a", 5, 0, 0), task("b", 7, 0, 0, 0), task("c", 11, 0, 0)), 12},
		{"one task, needed by nobody", crew(3, 4, task("a", 9, 0, 0)), 9},
		{"a row by one of two ways", crew(100, 100, task("a", 2, 1, 1), task("b", 5, 1, 1, 0), task("c", 4, 1, 1, 0), task("d", 1, 1, 1, 1, 2)), 8},
		{"a row that begins later", crew(100, 100, task("a", 7, 1, 1), task("b", 5, 1, 1), task("c", 4, 1, 1, 1)), 9},
		{"the longest row does not end last", crew(100, 100, task("a", 9, 1, 1), task("b", 9, 1, 1, 0), task("c", 1, 1, 1)), 18},
		{"men, with something left over", crew(2, 100, task("a", 3, 1, 0), task("b", 3, 1, 0), task("c", 3, 1, 0)), 5},
		{"men, with nothing left over", crew(3, 100, task("a", 4, 2, 0), task("b", 4, 2, 0), task("c", 4, 2, 0)), 8},
		{"ladders, with something left over", crew(100, 4, task("a", 2, 0, 3), task("b", 2, 0, 3), task("c", 2, 0, 3)), 5},
		{"ladders, but no men", crew(0, 2, task("a", 2, 0, 2), task("b", 2, 0, 2)), 4},
		{"men, but no ladders", crew(2, 0, task("a", 2, 2, 0), task("b", 2, 2, 0)), 4},
		{"what cannot be come to", crew(4, 4, task("a", 2, 0, 3), task("b", 2, 0, 3), task("c", 2, 0, 2)), 4},
		{"the most", crew(100, 100, slices.Collect(each(tasks(6), func(t *api.Task) { t.Days, t.Men = 12, 100 }))...), 72},
	} {
		if days := askBound(t, c.crew); days != c.want {
			t.Errorf("%s: %d", c.name, days)
		}
	}
}

func TestBoundCounted(t *testing.T) {
	rng := rand.New(rand.NewSource(168))
	for range 3000 {
		c := randomCrew(rng, 6, 12, 9)
		if days, want := askBound(t, c), counted(c); days != want {
			t.Fatal(c, days, want)
		}
	}
}

// P10.6: no starts that may be take fewer days than Fastest says, nor fewer than Bound says.
func TestNoneIsFaster(t *testing.T) {
	rng := rand.New(rand.NewSource(169))
	may, equal := 0, 0
	for range 3000 {
		c := randomCrew(rng, 6, 6, 4)
		starts, days := askFastest(t, c)
		if n, e := yard.Takes(c, starts); e != api.OK || n != days {
			t.Fatal(c, starts, n, e)
		}
		bound := askBound(t, c)
		for range 5 {
			n, e := yard.Takes(c, randomStarts(rng, c))
			if e != api.OK {
				continue
			}
			may++
			if n < days || n < bound {
				t.Fatal(c, n, days, bound)
			}
			if n == days {
				equal++
			}
		}
	}
	if may < 3000 || equal < 300 {
		t.Error(may, equal)
	}
}

// P10.6: with more men or ladders, or a task less at the end, it never takes longer.
func TestMoreIsNoSlower(t *testing.T) {
	rng := rand.New(rand.NewSource(170))
	faster := 0
	for range 2000 {
		c := randomCrew(rng, 6, 6, 4)
		_, days := askFastest(t, c)
		more := c
		more.Men += rng.Intn(3)
		more.Ladders += rng.Intn(3)
		_, fewer := askFastest(t, more)
		if fewer > days {
			t.Fatal(c, more, days, fewer)
		}
		if fewer < days {
			faster++
		}
		if last := len(c.Tasks) - 1; last >= 0 {
			less := crew(c.Men, c.Ladders, c.Tasks[:last]...)
			if _, n := askFastest(t, less); n > days {
				t.Fatal(c, days, n)
			}
		}
	}
	if faster < 200 {
		t.Error(faster)
	}
}
