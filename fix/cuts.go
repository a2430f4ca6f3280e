package fix

import (
	"slices"

	"thatch/api"
	"thatch/numbers"
)

// The marks of a cut: what comes to a thing is outside of it, is held by the thing as far as that bears it, or goes on to its ties.
const (
	outside = iota
	bearing
	passing
)

func isCut(things []api.Thing, cut []int) bool {
	if len(cut) != len(things) {
		return false
	}
	for i, x := range things {
		if !numbers.IsFrom(cut[i], outside, passing) || x.Ground && cut[i] == passing {
			return false
		}
	}
	return true
}

// measure returns the weight of a cut, and its way out.
func measure(n api.Net, cut []int) (weight, wayOut int) {
	for i, x := range n.Things {
		if cut[i] != outside {
			weight += x.Weight
		}
		if cut[i] == bearing {
			wayOut += x.Bears
		}
	}
	for _, t := range n.Ties {
		if cut[t.From] == passing && cut[t.To] == outside {
			wayOut += t.Most
		}
	}
	return weight, wayOut
}

func breaks(n api.Net, cut []int) bool {
	weight, wayOut := measure(n, cut)
	return weight > wayOut
}

// reach is to which sides of a thing a load would come.
type reach struct{ sides [2]bool }

// cutOf returns the cut around the places to which more load would come. All ways out of it are full, and their load is less than the weight in it.
func cutOf(things []api.Thing, reached map[place]way) []int {
	cut := make([]int, len(things))
	for i := range cut {
		var r reach
		for side := range r.sides {
			_, r.sides[side] = reached[place{i, side}]
		}
		switch r {
		case reach{[2]bool{upper: true}}:
			cut[i] = bearing
		case reach{[2]bool{upper: true, lower: true}}:
			cut[i] = passing
		}
	}
	return cut
}

// factor goes from a cut to one with a lesser quotient as long as its own one is more than can be carried.
func factor(n api.Net) (f api.Ratio, shares, cut []int) {
	cut = slices.Repeat([]int{bearing}, len(n.Things))
	for {
		weight, wayOut := measure(n, cut)
		f = numbers.LowestTerms(wayOut, weight)
		shares, lesser, holds := shareOut(n, f.Num, f.Den)
		if holds {
			return f, shares, cut
		}
		cut = lesser
	}
}
