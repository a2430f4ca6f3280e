package ridge_test

import (
	"math/rand"
	"slices"
	"testing"

	"thatch/api"
	"thatch/ridge"
)

// Rods for the tests, and what can be done with them.

func cut(length, many int) api.Cut { return api.Cut{Length: length, Many: many} }

func rods(stock, kerf int, cuts ...api.Cut) api.Rods {
	return api.Rods{Stock: stock, Kerf: kerf, Cuts: cuts}
}

// exampleRods are the rods of the document's examples.
func exampleRods() api.Rods { return rods(10, 1, cut(5, 2), cut(3, 2), cut(2, 1)) }

func copyRods(r api.Rods) api.Rods {
	r.Cuts = slices.Clone(r.Cuts)
	return r
}

// randomRods are rods that may be, of which a cut is from least to most times the Stock, in hundredths.
func randomRods(rng *rand.Rand, stock, least, most int) api.Rods {
	r := rods(between(rng, 1, stock), 0)
	if rng.Intn(2) == 0 {
		r.Kerf = between(rng, 0, 1+r.Stock/20)
	}
	left := between(rng, 0, api.MaxMany)
	for range between(rng, 0, api.MaxCuts) {
		many := rng.Intn(min(left, between(rng, 1, 6)) + 1)
		left -= many
		low := max(1, r.Stock*least/100)
		r.Cuts = append(r.Cuts, cut(between(rng, low, max(low, r.Stock*most/100)), many))
	}
	return r
}

// someRods are random rods, each time of another kind.
func someRods(rng *rand.Rand) api.Rods {
	switch rng.Intn(5) {
	case 0:
		return randomRods(rng, 20, 10, 60)
	case 1:
		return randomRods(rng, api.MaxStock, 20, 50)
	case 2:
		return randomRods(rng, 1000, 15, 40)
	case 3:
		return randomRods(rng, 60, 0, 100)
	default:
		return randomRods(rng, 1000, 25, 75)
	}
}

// isPlan looks at all that a plan must have.
func isPlan(r api.Rods, plan [][]int) bool {
	many := make([]int, len(r.Cuts))
	for _, p := range plan {
		length := -r.Kerf
		for _, i := range p {
			if i < 0 || i >= len(many) {
				return false
			}
			many[i]++
			length += r.Cuts[i].Length + r.Kerf
		}
		if len(p) == 0 || !slices.IsSorted(p) || length > r.Stock {
			return false
		}
	}
	for i, c := range r.Cuts {
		if many[i] != c.Many {
			return false
		}
	}
	return true
}

// askPlan returns how many patterns the plan has, which must be one.
func askPlan(t *testing.T, r api.Rods) int {
	t.Helper()
	plan, e := ridge.Plan(r)
	if e != api.OK || !isPlan(r, plan) {
		t.Fatal(r, plan, e)
	}
	return len(plan)
}
