package fire_test

import (
	"cmp"
	"slices"

	"thatch/api"
)

// What the tests hold the program against, found in other ways.

// gone goes with the gang, tick by tick, and returns when each strip of a plan is cleared.
func gone(g api.Ground, plan []int) []int {
	var times []int
	at, tick := g.Base, 0
	for _, number := range plan {
		for at != g.Strips[number].At {
			at += cmp.Compare(g.Strips[number].At, at)
			tick++
		}
		for range g.Strips[number].Work {
			tick++
		}
		times = append(times, tick)
	}
	return times
}

// clearings returns when each path is cleared by a plan, -1 if it is not.
func clearings(g api.Ground, plan []int) []int {
	times := slices.Repeat([]int{-1}, len(g.Paths))
	for i, t := range gone(g, plan) {
		for _, p := range g.Strips[plan[i]].Paths {
			if times[p] < 0 || t < times[p] {
				times[p] = t
			}
		}
	}
	return times
}

func lows(g api.Ground) []int {
	var ticks []int
	for _, p := range g.Paths {
		ticks = append(ticks, p.Time.Low)
	}
	return ticks
}

func highs(g api.Ground) []int {
	var ticks []int
	for _, p := range g.Paths {
		ticks = append(ticks, p.Time.High)
	}
	return ticks
}

// end is a time behind which nothing happens any more if fire goes along each path once.
func end(g api.Ground, ticks []int) int {
	last := 0
	for _, s := range g.Sparks {
		last = max(last, s.Time)
	}
	for _, n := range ticks {
		last += n
	}
	return last
}

// watched looks on, tick by tick, while fire goes along each path in so many ticks, and returns when each site begins to burn, -1 if it does not.
func watched(g api.Ground, cleared, ticks []int) []int {
	since := slices.Repeat([]int{-1}, len(g.Sites))
	light := func(site, tick int) {
		if since[site] < 0 {
			since[site] = tick
		}
	}
	for tick := range end(g, ticks) + 1 {
		for _, s := range g.Sparks {
			if s.Time == tick {
				light(s.Site, tick)
			}
		}
		for i, p := range g.Paths {
			if since[p.From] >= 0 && since[p.From]+ticks[i] == tick && (cleared[i] < 0 || cleared[i] >= tick) {
				light(p.To, tick)
			}
		}
	}
	return since
}

// fought returns when each site may burn first if a plan is done.
func fought(g api.Ground, plan []int) []int { return watched(g, clearings(g, plan), lows(g)) }

// overtaken does one strip of a plan after the other, and returns the first one that is reached by fire, -1 if none is.
func overtaken(g api.Ground, plan []int) int {
	for i, number := range plan {
		upTo := plan[:i+1]
		if t := fought(g, upTo)[g.Strips[number].Site]; t >= 0 && t < gone(g, upTo)[i] {
			return i
		}
	}
	return -1
}

// walks tells all rows of paths along which fire can go from a spark to a site, and when it is there. No row comes to a site twice.
func walks(g api.Ground, plan []int, site int, tell func(paths []int, time int)) {
	cleared := clearings(g, plan)
	var from func(at, time int, been, paths []int)
	from = func(at, time int, been, paths []int) {
		if at == site {
			tell(paths, time)
			return
		}
		for i, p := range g.Paths {
			there := time + p.Time.Low
			if p.From != at || slices.Contains(been, p.To) || cleared[i] >= 0 && cleared[i] < there {
				continue
			}
			from(p.To, there, append(slices.Clone(been), p.To), append(slices.Clone(paths), i))
		}
	}
	for _, s := range g.Sparks {
		from(s.Site, s.Time, []int{s.Site}, nil)
	}
}

// walked returns the first of the shortest rows of paths that are the fastest ones to a site, and whether there is one.
func walked(g api.Ground, plan []int, site int) (best []int, found bool) {
	fastest := 0
	walks(g, plan, site, func(paths []int, time int) {
		order := cmp.Or(cmp.Compare(time, fastest), cmp.Compare(len(paths), len(best)), slices.Compare(paths, best))
		if !found || order < 0 {
			best, fastest, found = paths, time, true
		}
	})
	return best, found
}

// isProof looks at each number of a list.
func isProof(g api.Ground, plan, earliest []int) bool {
	if len(earliest) != len(g.Sites) {
		return false
	}
	for _, n := range earliest {
		if n < -1 || n > 1000000 {
			return false
		}
	}
	for _, s := range g.Sparks {
		if earliest[s.Site] == -1 || earliest[s.Site] > s.Time {
			return false
		}
	}
	cleared := clearings(g, plan)
	for i, p := range g.Paths {
		from, to := earliest[p.From], earliest[p.To]
		there := from + p.Time.Low
		holds := cleared[i] >= 0 && cleared[i] < there
		if from != -1 && !holds && (to == -1 || to > there) {
			return false
		}
	}
	return true
}

// allPlans counts with as many digits as there are strips, and returns the numbers without a digit twice, in the order in which Save prefers them.
func allPlans(g api.Ground) [][]int {
	base := len(g.Strips) + 1
	count := 1
	for range g.Strips {
		count *= base
	}
	plans := [][]int{}
	for number := range count {
		plan, ok := []int{}, true
		for ; number > 0; number /= base {
			digit := number%base - 1
			ok = ok && digit >= 0 && !slices.Contains(plan, digit)
			plan = append(plan, digit)
		}
		if ok {
			plans = append(plans, plan)
		}
	}
	last := func(plan []int) int {
		times := append([]int{0}, gone(g, plan)...)
		return times[len(times)-1]
	}
	slices.SortFunc(plans, func(a, b []int) int {
		return cmp.Or(cmp.Compare(len(a), len(b)), cmp.Compare(last(a), last(b)), slices.Compare(a, b))
	})
	return plans
}

// isKept reports whether a plan is allowed, and keeps sites up to a time.
func isKept(g api.Ground, plan, sites []int, time int) bool {
	since := fought(g, plan)
	for _, site := range sites {
		if since[site] >= 0 && since[site] <= time {
			return false
		}
	}
	return overtaken(g, plan) < 0
}

// saved returns the first plan that keeps sites up to a time.
func saved(g api.Ground, sites []int, time int) ([]int, bool) {
	for _, plan := range allPlans(g) {
		if isKept(g, plan, sites, time) {
			return plan, true
		}
	}
	return nil, false
}
