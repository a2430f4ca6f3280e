package fix

import (
	"slices"

	"thatch/api"
)

// with returns a net with more ties behind its own ones.
func with(n api.Net, more ...api.Tie) api.Net {
	return api.Net{Things: n.Things, Ties: slices.Concat(n.Ties, more)}
}

// trial asks of one net after the other, all of the same things, whether they hold. A cut that broke one of them often breaks another one too, which is seen faster than what is left when all is pushed.
type trial struct{ cuts [][]int }

func (t *trial) holds(n api.Net) bool {
	if slices.ContainsFunc(t.cuts, func(cut []int) bool { return breaks(n, cut) }) {
		return false
	}
	_, cut, holds := shareOut(n, 1, 1)
	if !holds {
		t.cuts = append(t.cuts, cut)
	}
	return holds
}

// weak returns the ties without which a net does not hold. One that has no share of what carries the net is none of them.
func weak(n api.Net, shares []int) []int {
	var list []int
	var t trial
	for i := range n.Ties {
		ahead := api.Net{Things: n.Things, Ties: n.Ties[:i]}
		if shares[i] > 0 && !t.holds(with(ahead, n.Ties[i+1:]...)) {
			list = append(list, i)
		}
	}
	return list
}

// fewest tries sets of offers, those of fewer offers ahead of those of more, and of equally many the lesser list ahead of the greater one.
func fewest(n api.Net, offers []api.Tie) (chosen []int, found bool) {
	var t trial
	if !t.holds(with(n, offers...)) {
		return nil, false
	}
	var pick func(n api.Net, next, more int) bool
	pick = func(n api.Net, next, more int) bool {
		if more == 0 {
			return t.holds(n)
		}
		for i := next; i < len(offers); i++ {
			chosen = append(chosen, i)
			if pick(with(n, offers[i]), i+1, more-1) {
				return true
			}
			chosen = chosen[:len(chosen)-1]
		}
		return false
	}
	for many := range len(offers) + 1 {
		if pick(n, 0, many) {
			return chosen, true
		}
	}
	return nil, false
}
