package straw

import (
	"slices"

	"thatch/api"
)

// crops has a number of loads for each crop.
type crops [api.CrHeather + 1]int

// isEnough reports whether there is as much of each crop as the need.
func (c crops) isEnough(n api.Need) bool {
	return c[api.CrReed] >= n.Reed && c[api.CrStraw] >= n.Straw && c[api.CrHeather] >= n.Heather
}

// cheapest walks all choices, the lesser list ahead of the greater one, so that of equally good ones the first is kept.
func cheapest(plots []api.Plot, n api.Need) (best []int, least int, found bool) {
	var choice []int
	var walk func(next, cost int, sure crops)
	walk = func(next, cost int, sure crops) {
		better := !found || cost < least || cost == least && len(choice) < len(best)
		if better && sure.isEnough(n) {
			best, least, found = slices.Clone(choice), cost, true
		}
		for i := next; i < len(plots); i++ {
			p := plots[i]
			more := sure
			more[p.Crop] += p.Size * p.Yield.Low
			choice = append(choice, i)
			walk(i+1, cost+p.Cost, more)
			choice = choice[:len(choice)-1]
		}
	}
	walk(0, 0, crops{})
	return best, least, found
}
