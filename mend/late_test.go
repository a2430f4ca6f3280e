package mend_test

import (
	"math"
	"math/rand"
	"slices"
	"testing"

	"thatch/api"
	"thatch/mend"
)

// P8.4 (Late).

// late is what may be put off, and to which year.
type late struct {
	name              string
	w                 api.Works
	plan              [][]int
	year, slope, want int
	e                 api.Errno
}

func lateAll(t *testing.T, list []late) {
	t.Helper()
	for _, c := range list {
		if n, e := mend.Late(c.w, c.plan, c.year, c.slope); n != c.want || e != c.e {
			t.Error(c.name, n, e)
		}
	}
}

func TestLate(t *testing.T) {
	w := example()
	rich := works(5, 10, 1, crafts(add(20, 7), strip(30)), slope(60, 30, 60, 2, 6))
	lateAll(t, []late{
		{"the example", w, plan(row(0), row(-1), row(0)), 0, 0, 1, api.OK},
		{"not at all", w, plan(row(-1), row(0), row(0)), 1, 0, 1, api.OK},
		{"to the last year", w, plan(row(1), row(0), row(-1)), 1, 0, 2, api.OK},
		{"the last year itself", w, plan(row(0), row(-1), row(0)), 2, 0, 2, api.OK},
		{"over a year in which something is done", w, plan(row(1), row(0), row(-1)), 0, 0, 2, api.OK},
		{"over years in which something is done", works(4, 0, 1, crafts(add(5, 1)), slope(40, 0, 40, 1, 5)), plan(row(0), row(0), row(0), row(-1)), 0, 0, 3, api.OK},
		{"as it is not needed", rich, plan(row(0), row(-1), row(-1), row(-1), row(-1)), 0, 0, 4, api.OK},
		{"from in between", rich, plan(row(-1), row(1), row(-1), row(-1), row(-1)), 1, 0, 4, api.OK},
		{"in no other year there is room", works(2, 0, 1, crafts(add(5, 1)), slope(40, 0, 40, 1, 5)), plan(row(0), row(0)), 0, 0, 0, api.OK},
		{"one year", works(1, 0, 1, crafts(add(5, 1)), slope(40, 0, 40, 1, 5)), plan(row(0)), 0, 0, 0, api.OK},
	})
}

func TestLateHands(t *testing.T) {
	w := works(4, 0, 1, crafts(add(5, 1)), slope(40, 0, 40, 1, 5), slope(40, 0, 40, 1, 5))
	p := plan(row(0, -1), row(-1, 0), row(-1, -1), row(-1, 0))
	lateAll(t, []late{
		{"over a year without a hand, not to one", w, p, 0, 0, 2, api.OK},
		{"the other slope, within its own years", w, p, 1, 1, 2, api.OK},
		{"the other slope, at last", w, p, 3, 1, 3, api.OK},
	})
	w.Hands = 2
	lateAll(t, []late{
		{"two hands", w, p, 0, 0, 3, api.OK},
		{"two hands, the other slope", w, p, 1, 1, 2, api.OK},
	})
	w = works(4, 0, 2, crafts(add(10, 1), strip(3)), slope(40, 27, 50, 1, 5), slope(40, 10, 40, 1, 20))
	busy := plan(row(0, -1), row(-1, 1), row(-1, 1), row(-1, 1))
	lateAll(t, []late{
		{"two hands, as long as it is thick enough", w, busy, 0, 0, 2, api.OK},
		{"the other slope, which is mended in all years", w, busy, 1, 1, 1, api.OK},
	})
	w.Hands = 1
	lateAll(t, []late{{"one hand in each other year", w, busy, 0, 0, 0, api.OK}})
}

func TestLateErrors(t *testing.T) {
	w := example()
	kept, unkept := plan(row(-1), row(0), row(0)), plan(row(0), row(-1), row(-1))
	wasted := changed(func(w *api.Works) { w.Slopes[0].Takes = []int{20, 0, 20} })
	if keepsAll(wasted, unkept) || !keepsAll(wasted, plan(row(-1), row(-1), row(0))) {
		t.Fatal("not kept only if it is put off")
	}
	lateAll(t, []late{
		{"works that may not be", changed(func(w *api.Works) { w.Slopes = make([]api.Slope, 5) }), nil, 9, 9, 0, api.ErrLimit},
		{"a plan that may not be", w, plan(row(0)), 9, 9, 0, api.ErrArg},
		{"a row that may not be", w, plan(row(0), row(2), row(0)), 0, 0, 0, api.ErrArg},
		{"the year -1", w, kept, -1, 0, 0, api.ErrNone},
		{"the year 3", w, kept, 3, 0, 0, api.ErrNone},
		{"the least year", w, kept, math.MinInt, 0, 0, api.ErrNone},
		{"the greatest year", w, kept, math.MaxInt, 0, 0, api.ErrNone},
		{"the slope -1", w, kept, 1, -1, 0, api.ErrNone},
		{"the slope 1", w, kept, 1, 1, 0, api.ErrNone},
		{"the slope 3", w, kept, 1, 3, 0, api.ErrNone},
		{"the least slope", w, kept, 1, math.MinInt, 0, api.ErrNone},
		{"the greatest slope", w, kept, 1, math.MaxInt, 0, api.ErrNone},
		{"nothing is done", w, kept, 0, 0, 0, api.ErrNone},
		{"nothing is done, and it is not kept", w, unkept, 1, 0, 0, api.ErrNone},
		{"the year 3, and it is not kept", w, unkept, 3, 0, 0, api.ErrNone},
		{"it is not kept", w, unkept, 0, 0, 0, api.ErrState},
		{"it would be kept if it were put off", wasted, unkept, 0, 0, 0, api.ErrState},
		{"no years", changed(func(w *api.Works) { w.Years = 0 }), nil, 0, 0, 0, api.ErrNone},
	})
}

// keepsAll reports whether a plan keeps all slopes.
func keepsAll(w api.Works, p [][]int) bool {
	left := now(w)
	for year, r := range p {
		next, _, kept := lived(w, year, left, r)
		if !kept {
			return false
		}
		left = next
	}
	return true
}

// latest tries each year.
func latest(w api.Works, p [][]int, year, slope int) int {
	rows := allRows(w)
	most := year
	for to := year + 1; to < w.Years; to++ {
		var other [][]int
		for _, r := range p {
			other = append(other, slices.Clone(r))
		}
		if other[to][slope] >= 0 {
			continue
		}
		other[to][slope], other[year][slope] = other[year][slope], other[to][slope]
		mayBe := slices.ContainsFunc(rows, func(r []int) bool { return slices.Equal(r, other[to]) })
		if mayBe && keepsAll(w, other) {
			most = to
		}
	}
	return most
}

func TestLateRandom(t *testing.T) {
	rng := rand.New(rand.NewSource(136))
	seen := map[any]int{}
	for range 5000 {
		w := randomWorks(rng, 3, 2, 8)
		p := randomPlan(rng, w)
		year, slope := rng.Intn(w.Years+1), rng.Intn(len(w.Slopes))
		n, e := mend.Late(w, p, year, slope)
		want, wantError := 0, api.OK
		switch {
		case year == w.Years || p[year][slope] < 0:
			wantError = api.ErrNone
		case !keepsAll(w, p):
			wantError = api.ErrState
		default:
			want = latest(w, p, year, slope)
		}
		if n != want || e != wantError {
			t.Fatal(w, p, year, slope, n, e, want, wantError)
		}
		seen[e]++
		if e == api.OK {
			seen[n > year]++
		}
	}
	if seen[true] < 100 || seen[false] < 100 || seen[api.ErrNone] < 100 || seen[api.ErrState] < 100 {
		t.Error(seen)
	}
}
