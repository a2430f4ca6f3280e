package fire

import (
	"iter"
	"slices"

	"thatch/api"
)

// plans yields all plans of so many of some strips, in ascending order.
func plans(strips, count int) iter.Seq[[]int] {
	return func(yield func([]int) bool) {
		var plan []int
		var choose func() bool
		choose = func() bool {
			if len(plan) == count {
				return yield(slices.Clone(plan))
			}
			for number := range strips {
				if slices.Contains(plan, number) {
					continue
				}
				plan = append(plan, number)
				if !choose() {
					return false
				}
				plan = plan[:len(plan)-1]
			}
			return true
		}
		choose()
	}
}

// fewest returns the best plan of those that are good and have the fewest strips, and whether there is a good one.
func fewest(g api.Ground, isGood func(attempt) bool) (plan []int, found bool) {
	for count := range len(g.Strips) + 1 {
		if best, ok := tryAll(g, count, isGood); ok {
			return best.plan, true
		}
	}
	return nil, false
}

// trial is an attempt that was made, and whether it is good.
type trial struct {
	attempt
	good bool
}

// tryAll tries all plans of so many strips, each in a goroutine of its own, and returns the best one of those that are good.
func tryAll(g api.Ground, count int, isGood func(attempt) bool) (best attempt, found bool) {
	tried := make(chan trial)
	begun := 0
	for plan := range plans(len(g.Strips), count) {
		begun++
		go func() {
			a := follow(g, plan)
			tried <- trial{a, isGood(a)}
		}()
	}
	for range begun {
		if t := <-tried; t.good && (!found || t.compare(best) < 0) {
			best, found = t.attempt, true
		}
	}
	return best, found
}
