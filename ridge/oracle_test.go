package ridge_test

import (
	"math/big"
	"math/bits"
	"slices"

	"thatch/api"
)

// What the tests hold the program against, found in other ways.

// isRow looks at all that a row must have, one after the other.
func isRow(r api.Ridge, row []int) bool {
	width, profiles := 0, []int{r.Start}
	for _, number := range row {
		if number < 0 || number >= len(r.Pieces) {
			return false
		}
		p := r.Pieces[number]
		width += p.Width
		profiles = append(profiles, p.Left, p.Right)
	}
	profiles = append(profiles, r.End)
	for i := 0; i < len(profiles); i += 2 {
		if profiles[i] != profiles[i+1] {
			return false
		}
	}
	return width == r.Length
}

// allRows goes through all lists of pieces that are not too long, and keeps those that fit. They come in order.
func allRows(r api.Ridge) [][]int {
	var rows [][]int
	var grow func(row []int, left int)
	grow = func(row []int, left int) {
		if isRow(r, row) {
			rows = append(rows, slices.Clone(row))
		}
		for i, p := range r.Pieces {
			if p.Width <= left {
				grow(append(row, i), left-p.Width)
			}
		}
	}
	grow(nil, r.Length)
	return rows
}

// begun counts, with numbers of any size, the rows of each length up to that of the ridge that begin as the ridge does, by the profile with which they end.
func begun(r api.Ridge) [][]*big.Int {
	ways := make([][]*big.Int, r.Length+1)
	for length := range ways {
		for range 10 {
			ways[length] = append(ways[length], new(big.Int))
		}
		if length == 0 {
			ways[0][r.Start].SetInt64(1)
		}
		for _, p := range r.Pieces {
			if p.Width <= length {
				n := ways[length][p.Right]
				n.Add(n, ways[length-p.Width][p.Left])
			}
		}
	}
	return ways
}

// items are the cuts of rods, each as often as it is wanted, by their numbers.
func items(r api.Rods) []int {
	var list []int
	for i, c := range r.Cuts {
		list = append(list, slices.Repeat([]int{i}, c.Many)...)
	}
	return list
}

// fewestRods puts the cuts onto rods one after the other, in each order. For each set of them it keeps how few rods are enough, and how little of the last one.
func fewestRods(r api.Rods) int {
	type used struct{ rods, last int }
	list := items(r)
	best := make([]used, 1<<len(list))
	for set := 1; set < len(best); set++ {
		best[set] = used{len(list) + 1, 0}
		for i, cut := range list {
			if set>>i&1 == 0 {
				continue
			}
			u := best[set&^(1<<i)]
			length := r.Cuts[cut].Length
			if u.rods > 0 && u.last+r.Kerf+length <= r.Stock {
				u.last += r.Kerf + length
			} else {
				u = used{u.rods + 1, length}
			}
			if b := best[set]; u.rods < b.rods || u.rods == b.rods && u.last < b.last {
				best[set] = u
			}
		}
	}
	return best[len(best)-1].rods
}

// held looks at each set of cuts that a rod has room for, and returns the greatest weight of one.
func held(r api.Rods, weights []int) int {
	list := items(r)
	most := 0
	for set := 1; set < 1<<len(list); set++ {
		length, weight := r.Kerf*(bits.OnesCount(uint(set))-1), 0
		for i, cut := range list {
			if set>>i&1 == 1 {
				length += r.Cuts[cut].Length
				weight += weights[cut]
			}
		}
		if length <= r.Stock {
			most = max(most, weight)
		}
	}
	return most
}

// boundOf counts rods that hold as much as any does until they hold all weights.
func boundOf(r api.Rods, weights []int) int {
	sum, rods := 0, 0
	for _, cut := range items(r) {
		sum += weights[cut]
	}
	for each := held(r, weights); sum > 0; sum -= each {
		rods++
	}
	return rods
}
