package straw

import (
	"iter"
	"slices"

	"thatch/api"
)

// taken yields so many loads of parts, from the first part on, behind the first skip ones.
func taken(parts []api.Portion, skip, loads int) iter.Seq[api.Portion] {
	return func(yield func(api.Portion) bool) {
		over, left := skip, loads
		for _, p := range parts {
			passed := min(over, p.Loads)
			over -= passed
			n := min(left, p.Loads-passed)
			left -= n
			if n > 0 && !yield(api.Portion{Plot: p.Plot, Loads: n}) {
				return
			}
		}
	}
}

// put adds parts behind those of a list, so that no two neighbours have one field.
func put(list []api.Portion, parts iter.Seq[api.Portion]) []api.Portion {
	for p := range parts {
		if last := len(list) - 1; last >= 0 && list[last].Plot == p.Plot {
			list[last].Loads += p.Loads
		} else {
			list = append(list, p)
		}
	}
	return list
}

func loadsOf(parts []api.Portion) int {
	sum := 0
	for _, p := range parts {
		sum += p.Loads
	}
	return sum
}

// allLoads is how many loads a store has, wherever they are.
func allLoads(s api.Store) int {
	sum := loadsOf(s.Used) + loadsOf(s.Waste)
	for _, h := range s.Heaps {
		sum += loadsOf(h.Parts)
	}
	return sum
}

// copyStore returns a store that shares no memory with s, so that what is done to its heaps is not done to those of s.
func copyStore(s api.Store) api.Store {
	s.Last = slices.Clone(s.Last)
	s.Given = slices.Clone(s.Given)
	s.Heaps = slices.Clone(s.Heaps)
	for i, h := range s.Heaps {
		s.Heaps[i].Parts = slices.Clone(h.Parts)
	}
	s.Used = slices.Clone(s.Used)
	s.Waste = slices.Clone(s.Waste)
	return s
}
