package mend

import (
	"slices"

	"thatch/api"
	"thatch/fault"
	"thatch/numbers"
)

// nothing is what stands in a row for a slope to which nothing is done.
const nothing = -1

// row is the number of the craft for each slope, and nothing behind the last one.
type row [api.MaxSlopes]int

// idle is the row in which nothing is done.
var idle = row{nothing, nothing, nothing, nothing}

// list returns the numbers of so many slopes.
func (r row) list(count int) []int { return slices.Clone(r[:count]) }

// mayBe reports whether a row, which has nothing behind the last slope, may be.
func (k keeping) mayBe(r row) bool {
	hands := 0
	for _, number := range r {
		if !numbers.IsFrom(number, nothing, len(k.crafts)-1) {
			return false
		}
		if number != nothing {
			hands++
		}
	}
	return hands <= k.works.Hands
}

// rows yields all rows that may be, in ascending order.
func (k keeping) rows(yield func(row) bool) {
	r := idle
	var choose func(slope int) bool
	choose = func(slope int) bool {
		if slope == len(k.works.Slopes) {
			return !k.mayBe(r) || yield(r)
		}
		for number := nothing; number < len(k.crafts); number++ {
			r[slope] = number
			if !choose(slope + 1) {
				return false
			}
		}
		return true
	}
	choose(0)
}

// rowOf panics unless numbers are a row that may be.
func (k keeping) rowOf(list []int) row {
	fault.Unless(len(list) == len(k.works.Slopes), api.ErrArg)
	r := idle
	copy(r[:], list)
	fault.Unless(k.mayBe(r), api.ErrArg)
	return r
}

// planOf panics unless lists of numbers are a plan that may be.
func (k keeping) planOf(lists [][]int) []row {
	fault.Unless(len(lists) == k.works.Years, api.ErrArg)
	var plan []row
	for _, list := range lists {
		plan = append(plan, k.rowOf(list))
	}
	return plan
}

func (k keeping) cost(r row) int {
	if r == idle {
		return 0
	}
	sum := k.works.Visit
	for i, s := range k.works.Slopes {
		sum += k.craft(r[i]).cost(s.Size)
	}
	return sum
}
