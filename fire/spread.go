package fire

import (
	"cmp"
	"slices"

	"thatch/api"
	"thatch/waiting"
)

// never is the time of what does not happen.
const never = -1

// arrival is fire that comes to a site, along paths from a spark on.
type arrival struct {
	site, time int
	way        []int
}

func (a arrival) compare(o arrival) int {
	return cmp.Or(cmp.Compare(a.time, o.time), cmp.Compare(len(a.way), len(o.way)), slices.Compare(a.way, o.way))
}

// fastest and slowest are paces: in how many ticks fire goes along a path.
func fastest(s api.Span) int { return s.Low }

func slowest(s api.Span) int { return s.High }

// spread returns the first arrival of fire at each site that it comes to, if it goes along all paths with a pace. All ways to a site that are as fast come from sites that burned before, so the least one of them comes first.
func (a attempt) spread(pace func(api.Span) int) map[int]arrival {
	next := waiting.NewHeap(arrival.compare)
	for _, s := range a.ground.Sparks {
		next.Push(arrival{site: s.Site, time: s.Time})
	}
	stopped := a.stops()
	first := map[int]arrival{}
	for x := range next.Least {
		if _, burns := first[x.site]; burns {
			continue
		}
		first[x.site] = x
		for i, p := range a.ground.Paths {
			if t := x.time + pace(p.Time); p.From == x.site && !stopped(i, t) {
				next.Push(arrival{p.To, t, append(slices.Clip(x.way), i)})
			}
		}
	}
	return first
}

// times returns the time of the first arrival at each site, or never.
func (a attempt) times(pace func(api.Span) int) []int {
	times := slices.Repeat([]int{never}, len(a.ground.Sites))
	for site, x := range a.spread(pace) {
		times[site] = x.time
	}
	return times
}

// burningAt returns the sites that burn at a time, if each burns from its time on.
func burningAt(time int, times []int) []int {
	var sites []int
	for site, t := range times {
		if isBy(time, t) {
			sites = append(sites, site)
		}
	}
	return sites
}

// isBy reports whether t comes, at a time at the latest.
func isBy(time, t int) bool { return t != never && t <= time }
