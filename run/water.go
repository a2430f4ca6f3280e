package run

import (
	"cmp"
	"maps"
	"slices"

	"thatch/api"
	"thatch/waiting"
)

// flow is where water goes, from a wear on.
type flow struct {
	to   place
	wear int
}

// water is the flows from the rain and from each bundle, in ascending order of where they lead to.
type water map[int][]flow

func waterOf(list []api.Link) water {
	w := water{}
	for _, l := range list {
		w[l.From] = append(w[l.From], flow{placeOf(l.To), l.Wear})
	}
	return w
}

// wet returns the bundles that water comes to with a wear, and whether it comes to a batten.
func (w water) wet(wear int) (bundles []int, leaks bool) {
	reached := map[int]bool{}
	var runFrom func(from int)
	runFrom = func(from int) {
		for _, f := range w[from] {
			if f.wear > wear {
				continue
			}
			switch to := f.to.(type) {
			case batten:
				leaks = true
			case bundle:
				if number := int(to); !reached[number] {
					reached[number] = true
					runFrom(number)
				}
			}
		}
	}
	runFrom(api.RnRain)
	return slices.Sorted(maps.Keys(reached)), leaks
}

// needs returns the need of each of so many bundles, and of the battens.
func (w water) needs(count int) (bundles []int, battens int) {
	bundles, battens = slices.Repeat([]int{-1}, count), -1
	next := waiting.NewHeap(func(a, b flow) int { return cmp.Compare(a.wear, b.wear) })
	runOn := func(from, wear int) {
		for _, f := range w[from] {
			next.Push(flow{f.to, max(f.wear, wear)})
		}
	}
	runOn(api.RnRain, 0)
	for f := range next.Least {
		switch to := f.to.(type) {
		case batten:
			if battens < 0 {
				battens = f.wear
			}
		case bundle:
			if bundles[to] < 0 {
				bundles[to] = f.wear
				runOn(int(to), f.wear)
			}
		}
	}
	return bundles, battens
}

// way returns the bundles through which water comes to a batten with a wear: the fewest, of several ways with so many the least list. It wants a wear that is enough.
func (w water) way(wear int) []int {
	var found []int
	next := waiting.NewHeap(compareWays)
	next.Push(nil)
	seen := map[int]bool{}
search:
	for way := range next.Least {
		from := endOf(way)
		if seen[from] {
			continue search
		}
		seen[from] = true
		for _, f := range w[from] {
			if f.wear > wear {
				continue
			}
			switch to := f.to.(type) {
			case batten:
				found = way
				break search
			case bundle:
				next.Push(append(slices.Clip(way), int(to)))
			}
		}
	}
	return found
}

func compareWays(a, b []int) int {
	return cmp.Or(cmp.Compare(len(a), len(b)), slices.Compare(a, b))
}

// endOf returns where a way has come to: its last bundle, or the rain if it has none.
func endOf(way []int) int {
	if len(way) == 0 {
		return api.RnRain
	}
	return way[len(way)-1]
}
