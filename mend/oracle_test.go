package mend_test

import (
	"cmp"
	"slices"

	"thatch/api"
)

// What the tests hold the program against, found in other ways.

// lived returns what a year leaves of the slopes, what its row costs, and whether all are kept.
func lived(w api.Works, year int, thick, row []int) (left []int, cost int, kept bool) {
	kept = true
	for i, s := range w.Slopes {
		n := thick[i]
		if row[i] >= 0 {
			c := w.Crafts[row[i]]
			n += c.Add
			if n > s.Full || c.Strip {
				n = s.Full
			}
			cost += c.Price * s.Size
		}
		if count := len(s.Takes); count > 0 {
			n -= s.Takes[year%count]
		}
		if n < 0 {
			n = 0
		}
		left = append(left, n)
		kept = kept && n >= s.Need
	}
	if slices.Max(row) >= 0 {
		cost += w.Visit
	}
	return left, cost, kept
}

func now(w api.Works) []int {
	var thick []int
	for _, s := range w.Slopes {
		thick = append(thick, s.Now)
	}
	return thick
}

// allRows counts through all rows, and returns those that may be, in ascending order.
func allRows(w api.Works) [][]int {
	base, count := len(w.Crafts)+1, 1
	for range w.Slopes {
		count *= base
	}
	var list [][]int
	for number := range count {
		row := make([]int, len(w.Slopes))
		done := 0
		for i := range row {
			last := len(row) - 1 - i
			row[last] = number%base - 1
			number /= base
			if row[last] >= 0 {
				done++
			}
		}
		if done <= w.Hands {
			list = append(list, row)
		}
	}
	return list
}

// eachPlan goes through all plans that keep all slopes from a year on, in ascending order, and tells each of them with what it costs. Whatever is begun is told to begin, with its year and thicknesses.
func eachPlan(w api.Works, year int, thick []int, begin func(year int, thick []int), tell func(plan [][]int, cost int)) {
	var plan [][]int
	var from func(year int, thick []int, cost int)
	from = func(year int, thick []int, cost int) {
		begin(year, thick)
		if year == w.Years {
			tell(plan, cost)
			return
		}
		for _, row := range allRows(w) {
			if left, paid, kept := lived(w, year, thick, row); kept {
				plan = append(plan, row)
				from(year+1, left, cost+paid)
				plan = plan[:len(plan)-1]
			}
		}
	}
	from(year, thick, 0)
}

// tried tries all plans from a year on.
func tried(w api.Works, year int, thick []int) (best [][]int, least int, found bool) {
	eachPlan(w, year, thick, func(int, []int) {}, func(plan [][]int, cost int) {
		if !found || cost < least {
			best, least, found = slices.Clone(plan), cost, true
		}
	})
	return best, least, found
}

func compareWorths(a, b api.Worth) int {
	return cmp.Or(cmp.Compare(a.Year, b.Year), slices.Compare(a.Thick, b.Thick))
}

// triedStates returns all states from one on, in ascending order, with MaxPaid as their values, by trying all plans.
func triedStates(w api.Works, year int, thick []int) []api.Worth {
	var list []api.Worth
	eachPlan(w, year, thick, func(year int, thick []int) {
		s := worth(year, api.MaxPaid, thick...)
		if !slices.ContainsFunc(list, func(x api.Worth) bool { return compareWorths(x, s) == 0 }) {
			list = append(list, s)
		}
	}, func([][]int, int) {})
	slices.SortFunc(list, compareWorths)
	return list
}

// triedValues tries all plans from each state on.
func triedValues(w api.Works) []api.Worth {
	var list []api.Worth
	for _, s := range triedStates(w, 0, now(w)) {
		if s.Year == w.Years {
			continue
		}
		if _, cost, found := tried(w, s.Year, s.Thick); found {
			s.Cost = cost
		}
		list = append(list, s)
	}
	return list
}

// paid goes from year to year, and keeps what it costs at least to come to the thicknesses that there may be then. It returns the least of the last year, if there is one, and how many states it came to; it stops if these are too many.
func paid(w api.Works, year int, thick []int) (least, states int, found bool) {
	key := func(thick []int) (k [api.MaxSlopes]int) {
		copy(k[:], thick)
		return k
	}
	costs := map[[api.MaxSlopes]int]int{key(thick): 0}
	states = 1
	for ; year < w.Years && states <= api.MaxStates; year++ {
		next := map[[api.MaxSlopes]int]int{}
		for from, cost := range costs {
			for _, row := range allRows(w) {
				left, more, kept := lived(w, year, from[:], row)
				k := key(left)
				if old, ok := next[k]; kept && (!ok || cost+more < old) {
					next[k] = cost + more
				}
			}
		}
		costs = next
		states += len(costs)
	}
	for _, cost := range costs {
		if !found || cost < least {
			least, found = cost, true
		}
	}
	return least, states, found
}

// isProof looks at each pair of elements that a row leads from and to.
func isProof(w api.Works, least int, l []api.Worth) bool {
	for i, x := range l {
		if x.Year < 0 || x.Year >= w.Years || len(x.Thick) != len(w.Slopes) || x.Cost < 0 || x.Cost > api.MaxPaid {
			return false
		}
		for k, s := range w.Slopes {
			if x.Thick[k] < 0 || x.Thick[k] > s.Full {
				return false
			}
		}
		if i > 0 && compareWorths(l[i-1], x) >= 0 {
			return false
		}
	}
	if w.Years == 0 {
		return len(l) == 0 && least <= 0
	}
	find := func(year int, thick []int) (api.Worth, bool) {
		i := slices.IndexFunc(l, func(x api.Worth) bool { return x.Year == year && slices.Equal(x.Thick, thick) })
		if i < 0 {
			return api.Worth{}, false
		}
		return l[i], true
	}
	if first, ok := find(0, now(w)); !ok || first.Cost < least {
		return false
	}
	for _, x := range l {
		for _, row := range allRows(w) {
			left, cost, kept := lived(w, x.Year, x.Thick, row)
			if kept && x.Year < w.Years-1 {
				behind, ok := find(x.Year+1, left)
				if !ok {
					return false
				}
				cost += behind.Cost
			}
			if kept && x.Cost > cost {
				return false
			}
		}
	}
	return true
}
