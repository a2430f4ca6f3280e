package ridge

import (
	"iter"
	"slices"

	"thatch/api"
)

// pattern is how often each cut stands in it, or is wanted.
type pattern struct{ many [api.MaxCuts]int }

func wanted(r api.Rods) pattern {
	var p pattern
	for i, c := range r.Cuts {
		p.many[i] = c.Many
	}
	return p
}

func (p pattern) without(q pattern) pattern {
	for i, n := range q.many {
		p.many[i] -= n
	}
	return p
}

// first is the first cut of a pattern that is not empty.
func (p pattern) first() int {
	return slices.IndexFunc(p.many[:], func(n int) bool { return n > 0 })
}

// weigh returns the sum of the weights of the cuts of a pattern.
func (p pattern) weigh(weights []int) int {
	sum := 0
	for i, n := range weights {
		sum += n * p.many[i]
	}
	return sum
}

// list returns the numbers of the cuts of a pattern.
func (p pattern) list() []int {
	var list []int
	for i, n := range p.many {
		list = append(list, slices.Repeat([]int{i}, n)...)
	}
	return list
}

func lists(patterns []pattern) [][]int {
	var all [][]int
	for _, p := range patterns {
		all = append(all, p.list())
	}
	return all
}

// patterns yields all patterns that fit a rod, the empty one as well, of cuts that are among those of most.
func patterns(r api.Rods, most pattern) iter.Seq[pattern] {
	return func(yield func(pattern) bool) {
		var fill func(p pattern, cut, room int) bool
		fill = func(p pattern, cut, room int) bool {
			if cut == len(r.Cuts) {
				return yield(p)
			}
			size := r.Cuts[cut].Length + r.Kerf
			for n := min(most.many[cut], room/size); n >= 0; n-- {
				p.many[cut] = n
				if !fill(p, cut+1, room-n*size) {
					return false
				}
			}
			return true
		}
		// The last cut needs no saw behind it: a rod has room for one more Kerf.
		fill(pattern{}, 0, r.Stock+r.Kerf)
	}
}

// bound is 0 if nothing that is wanted weighs anything; otherwise a rod holds some of it, as each cut fits one.
func bound(r api.Rods, weights []int) int {
	sum := wanted(r).weigh(weights)
	if sum == 0 {
		return 0
	}
	held := 0
	for p := range patterns(r, wanted(r)) {
		held = max(held, p.weigh(weights))
	}
	return (sum + held - 1) / held
}

// fold returns the weights of the fold k.
func fold(r api.Rods, k int) []int {
	weights := make([]int, len(r.Cuts))
	for i, c := range r.Cuts {
		weights[i] = k * (c.Length + r.Kerf) / (r.Stock + r.Kerf)
	}
	return weights
}

func greatest(r api.Rods) (most int, weights []int) {
	weights = fold(r, 1)
	most = bound(r, weights)
	for k := 2; k <= api.MaxFold; k++ {
		other := fold(r, k)
		if n := bound(r, other); n > most {
			most, weights = n, other
		}
	}
	return most, weights
}

// singly is the plan with a rod for each cut.
func singly(r api.Rods) []pattern {
	var plan []pattern
	for i, c := range r.Cuts {
		var p pattern
		p.many[i] = 1
		plan = append(plan, slices.Repeat([]pattern{p}, c.Many)...)
	}
	return plan
}

// fewest begins with the plan that has most patterns, and finds ever better ones. The first cut that is still wanted is in one of the patterns that are still to come, which may as well be the next one.
func fewest(r api.Rods) []pattern {
	best := singly(r)
	// With how few patterns it was come to what is still wanted.
	made := map[pattern]int{{}: len(best)}
	var improve func(plan []pattern, rest pattern)
	improve = func(plan []pattern, rest pattern) {
		if n, ok := made[rest]; ok && n <= len(plan) {
			return
		}
		made[rest] = len(plan)
		if rest == (pattern{}) {
			best = slices.Clone(plan)
			return
		}
		first := rest.first()
		for p := range patterns(r, rest) {
			if p.many[first] > 0 {
				improve(append(plan, p), rest.without(p))
			}
		}
	}
	improve(nil, wanted(r))
	return best
}
