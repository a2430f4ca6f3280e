package fix_test

import (
	"iter"
	"slices"

	"thatch/api"
)

// What the chapter says of shares and cuts, told by going through all of them.

// carry reports whether shares carry a net with weights, and with Bears and Most, so many times as great.
func carry(n api.Net, shares []int, weights, bears int) bool {
	if len(shares) != len(n.Ties) {
		return false
	}
	load, away := make([]int, len(n.Things)), make([]int, len(n.Things))
	for i, x := range n.Ties {
		if shares[i] < 0 || shares[i] > bears*x.Most {
			return false
		}
		load[x.To] += shares[i]
		away[x.From] += shares[i]
	}
	for i, x := range n.Things {
		load[i] += weights * x.Weight
		if load[i] > bears*x.Bears {
			return false
		}
		if !x.Ground && load[i] != away[i] {
			return false
		}
	}
	return true
}

// out is the weight of a list of marks, and its way out; false if it is no cut.
func out(n api.Net, cut []int) (weight, way int, ok bool) {
	if len(cut) != len(n.Things) {
		return 0, 0, false
	}
	marks := map[int][]int{}
	for i, mark := range cut {
		marks[mark] = append(marks[mark], i)
	}
	if len(marks[0])+len(marks[1])+len(marks[2]) < len(cut) {
		return 0, 0, false
	}
	for _, i := range marks[2] {
		if n.Things[i].Ground {
			return 0, 0, false
		}
		weight += n.Things[i].Weight
	}
	for _, i := range marks[1] {
		weight += n.Things[i].Weight
		way += n.Things[i].Bears
	}
	for _, x := range n.Ties {
		if slices.Contains(marks[2], x.From) && slices.Contains(marks[0], x.To) {
			way += x.Most
		}
	}
	return weight, way, true
}

// breaks reports whether a list is a cut that breaks a net.
func breaks(n api.Net, cut []int) bool {
	weight, way, ok := out(n, cut)
	return ok && weight > way
}

// lists yields all lists with numbers from low to the highs, in one list that changes.
func lists(low int, highs []int) iter.Seq[[]int] {
	return func(yield func([]int) bool) {
		list := slices.Repeat([]int{low}, len(highs))
		for {
			if !yield(list) {
				return
			}
			i := 0
			for i < len(list) && list[i] == highs[i] {
				list[i] = low
				i++
			}
			if i == len(list) {
				return
			}
			list[i]++
		}
	}
}

// mosts are the greatest shares of a net.
func mosts(n api.Net) []int {
	var list []int
	for _, x := range n.Ties {
		list = append(list, x.Most)
	}
	return list
}

// isCarried goes through all shares.
func isCarried(n api.Net) bool {
	for shares := range lists(0, mosts(n)) {
		if carry(n, shares, 1, 1) {
			return true
		}
	}
	return false
}

// isBroken goes through all cuts.
func isBroken(n api.Net) bool {
	for cut := range lists(0, slices.Repeat([]int{2}, len(n.Things))) {
		if breaks(n, cut) {
			return true
		}
	}
	return false
}

// leastQuotient goes through all cuts whose weight is not 0.
func leastQuotient(n api.Net) api.Ratio {
	least := api.Ratio{Num: 1, Den: 0}
	for cut := range lists(0, slices.Repeat([]int{2}, len(n.Things))) {
		weight, way, ok := out(n, cut)
		if ok && weight > 0 && isLess(ratio(way, weight), least) {
			least = ratio(way, weight)
		}
	}
	return lowest(least)
}

// lowest divides by all that divides both.
func lowest(r api.Ratio) api.Ratio {
	for by := r.Den; by > 1; by-- {
		if r.Num%by == 0 && r.Den%by == 0 {
			r = ratio(r.Num/by, r.Den/by)
		}
	}
	return r
}

func without(n api.Net, tie int) api.Net {
	return api.Net{Things: n.Things, Ties: slices.Delete(slices.Clone(n.Ties), tie, tie+1)}
}

func with(n api.Net, offers []api.Tie, chosen []int) api.Net {
	all := slices.Clone(n.Ties)
	for _, i := range chosen {
		all = append(all, offers[i])
	}
	return api.Net{Things: n.Things, Ties: all}
}

// setsOf returns all sets of so many numbers from 0 on, those of fewer ahead of those of more, of equally many the lesser list ahead.
func setsOf(count int) [][]int {
	var sets [][]int
	for set := range 1 << count {
		var list []int
		for i := range count {
			if set>>i&1 == 1 {
				list = append(list, i)
			}
		}
		sets = append(sets, list)
	}
	slices.SortFunc(sets, func(a, b []int) int {
		if len(a) != len(b) {
			return len(a) - len(b)
		}
		return slices.Compare(a, b)
	})
	return sets
}
