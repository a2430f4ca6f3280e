package fix

import (
	"iter"

	"thatch/api"
	"thatch/numbers"
)

// areShares reports whether there is a share for each tie, from 0 to its Most.
func areShares(ties []api.Tie, shares []int) bool {
	if len(shares) != len(ties) {
		return false
	}
	for i, t := range ties {
		if !numbers.IsFrom(shares[i], 0, t.Most) {
			return false
		}
	}
	return true
}

// bear reports whether no thing has more load than it bears, and each passes on just its load or stands by itself.
func bear(n api.Net, shares []int) bool {
	for i, x := range n.Things {
		load := x.Weight + sum(shares, tiesAt(n.Ties, place{i, upper}))
		passed := sum(shares, tiesAt(n.Ties, place{i, lower}))
		if load > x.Bears || !x.Ground && passed != load {
			return false
		}
	}
	return true
}

func sum(shares []int, ties iter.Seq[int]) int {
	all := 0
	for i := range ties {
		all += shares[i]
	}
	return all
}

// shareOut returns shares that carry a net whose weights, and whatever bears them, are so many times as great; or a cut that breaks it.
func shareOut(n api.Net, weights, bears int) (shares, cut []int, holds bool) {
	f := newFlow(n, weights, bears)
	if reached := f.push(); len(reached) > 0 {
		return nil, cutOf(n.Things, reached), false
	}
	return f.shares(n.Ties), nil, true
}
