package plane

import (
	"iter"
	"maps"
	"slices"
)

// Side is what lies along a line.
type Side interface{ Path() Line }

// Levels yields the heights of horizontal lines, from bottom to top, one between any two neighbours among the heights at which sides end or cross. What one of them meets, all horizontal lines between these neighbours meet in the same order.
func Levels[S Side](sides []S) iter.Seq[Quotient] {
	return func(yield func(Quotient) bool) {
		var below Quotient
		for i, v := range heights(sides) {
			if i > 0 && !yield(below.Between(v)) {
				return
			}
			below = v
		}
	}
}

// heights returns the heights at which sides end or cross, in ascending order.
func heights[S Side](sides []S) []Quotient {
	all := map[Quotient]bool{}
	for i, s := range sides {
		l := s.Path()
		all[Whole(l.Foot())] = true
		all[Whole(l.Top())] = true
		for _, o := range sides[:i] {
			if v, ok := l.crossing(o.Path()); ok {
				all[v] = true
			}
		}
	}
	return slices.SortedFunc(maps.Keys(all), Quotient.Compare)
}
