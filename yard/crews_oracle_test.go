package yard_test

import (
	"iter"
	"math/rand"
	"slices"
	"testing"

	"thatch/api"
	"thatch/yard"
)

// Crews for the tests, and other ways to find out about them.

// each yields tasks of which something is changed.
func each(tasks []api.Task, do func(t *api.Task)) iter.Seq[api.Task] {
	return func(yield func(api.Task) bool) {
		for _, t := range tasks {
			do(&t)
			if !yield(t) {
				return
			}
		}
	}
}

// between is a random number from low to high.
func between(rng *rand.Rand, low, high int) int { return low + rng.Intn(high-low+1) }

// randomCrew is a crew that may be, with up to so many tasks of up to so many days, for up to so many men and ladders.
func randomCrew(rng *rand.Rand, most, days, hands int) api.Crew {
	c := crew(rng.Intn(hands+1), rng.Intn(hands+1))
	for i := range rng.Intn(most + 1) {
		x := task("t"+string(rune('a'+i)), between(rng, 1, days), rng.Intn(c.Men+1), rng.Intn(c.Ladders+1))
		for before := range i {
			if rng.Intn(4) == 0 {
				x.After = append(x.After, before)
			}
		}
		c.Tasks = append(c.Tasks, x)
	}
	return c
}

// randomStarts is a start for each task, mostly when those that come before it are done, or not long after another one.
func randomStarts(rng *rand.Rand, c api.Crew) []int {
	var starts []int
	for i, x := range c.Tasks {
		start := 0
		for _, before := range x.After {
			start = max(start, starts[before]+c.Tasks[before].Days)
		}
		for rng.Intn(3) == 0 && i > 0 {
			start = max(start, starts[rng.Intn(i)]+rng.Intn(9))
		}
		if start > 0 && rng.Intn(20) == 0 {
			start--
		}
		starts = append(starts, start)
	}
	return starts
}

// watched goes from day to day, and returns how many pass until all is done; false if there are not enough men or ladders on one of them, or a task is under way while one before it is not done.
func watched(c api.Crew, starts []int) (int, bool) {
	left := 0
	var days []int
	for _, x := range c.Tasks {
		left += x.Days
		days = append(days, x.Days)
	}
	day := 0
	for ; left > 0; day++ {
		men, ladders := c.Men, c.Ladders
		var busy []int
		for i, x := range c.Tasks {
			if day < starts[i] || days[i] == 0 {
				continue
			}
			for _, before := range x.After {
				if days[before] > 0 {
					return 0, false
				}
			}
			men -= x.Men
			ladders -= x.Ladders
			busy = append(busy, i)
		}
		if men < 0 || ladders < 0 {
			return 0, false
		}
		for _, i := range busy {
			days[i]--
			left--
		}
	}
	return day, true
}

// tried goes through all starts with which all is done in 0 days, in 1 day, and so on, in ascending order, and returns the first ones that may be.
func tried(c api.Crew) ([]int, int) {
	for days := 0; ; days++ {
		if starts, ok := triedIn(c, days, nil); ok {
			return starts, days
		}
	}
}

func triedIn(c api.Crew, days int, starts []int) ([]int, bool) {
	number := len(starts)
	some := crew(c.Men, c.Ladders, c.Tasks[:number]...)
	if _, ok := watched(some, starts); !ok {
		return nil, false
	}
	if number == len(c.Tasks) {
		return starts, true
	}
	for start := 0; start+c.Tasks[number].Days <= days; start++ {
		if all, ok := triedIn(c, days, append(slices.Clone(starts), start)); ok {
			return all, true
		}
	}
	return nil, false
}

// counted is the bound of a crew, by all rows of tasks, and by taking away the work of day after day.
func counted(c api.Crew) int {
	bound := 0
	for set := range 1 << len(c.Tasks) {
		last, days, isRow := -1, 0, true
		for i, x := range c.Tasks {
			if set>>i&1 == 0 {
				continue
			}
			isRow = isRow && (last < 0 || slices.Contains(x.After, last))
			last = i
			days += x.Days
		}
		if isRow {
			bound = max(bound, days)
		}
	}
	menDays, ladderDays := 0, 0
	for _, x := range c.Tasks {
		menDays += x.Days * x.Men
		ladderDays += x.Days * x.Ladders
	}
	for day := 1; menDays > 0 || ladderDays > 0; day++ {
		menDays -= c.Men
		ladderDays -= c.Ladders
		bound = max(bound, day)
	}
	return bound
}

func askFastest(t *testing.T, c api.Crew) ([]int, int) {
	t.Helper()
	starts, days, e := yard.Fastest(c)
	if e != api.OK {
		t.Fatal(c, e)
	}
	return starts, days
}

func askBound(t *testing.T, c api.Crew) int {
	t.Helper()
	days, e := yard.Bound(c)
	if e != api.OK {
		t.Fatal(c, e)
	}
	return days
}
