package mend

import (
	"iter"
	"slices"

	"thatch/api"
)

// never is the year of what does not happen.
const never = -1

// keeping is works that may be, with their crafts.
type keeping struct {
	works  api.Works
	crafts []craft
}

func keepingOf(w api.Works) keeping {
	requireWorks(w)
	k := keeping{works: w}
	for _, c := range w.Crafts {
		k.crafts = append(k.crafts, craftOf(c))
	}
	return k
}

func (k keeping) craft(number int) craft {
	if number == nothing {
		return rest{}
	}
	return k.crafts[number]
}

// behind returns the state behind a year with a row, and whether all slopes are kept in that year.
func (k keeping) behind(from state, r row) (to state, kept bool) {
	to, kept = state{year: from.year + 1}, true
	for i, s := range k.works.Slopes {
		thick := k.craft(r[i]).mended(from.thick[i], s.Full)
		to.thick[i] = max(0, thick-taken(s, from.year))
		kept = kept && to.thick[i] >= s.Need
	}
	return to, kept
}

func taken(s api.Slope, year int) int {
	if len(s.Takes) == 0 {
		return 0
	}
	return s.Takes[year%len(s.Takes)]
}

// step is a row with which all slopes are kept in a year, what it costs, and where it leads.
type step struct {
	row  row
	cost int
	to   state
}

// steps yields all that may be done in the year of a state so that all slopes are kept, in ascending order of the rows.
func (k keeping) steps(from state) iter.Seq[step] {
	return func(yield func(step) bool) {
		if from.year == k.works.Years {
			return
		}
		for r := range k.rows {
			if to, kept := k.behind(from, r); kept && !yield(step{r, k.cost(r), to}) {
				return
			}
		}
	}
}

// follow returns what is left of each slope at the end of each year, up to the first one in which not all are kept, what the rows up to there cost, and that year, or never.
func (k keeping) follow(plan []row) (thick [][]int, cost, at int) {
	from := k.start()
	for year, r := range plan {
		to, kept := k.behind(from, r)
		thick = append(thick, to.list(len(k.works.Slopes)))
		cost += k.cost(r)
		if !kept {
			return thick, cost, year
		}
		from = to
	}
	return thick, cost, never
}

func (k keeping) keeps(plan []row) bool {
	_, _, at := k.follow(plan)
	return at == never
}

// latest returns the last year to which what is done to a slope in a year may be put off. It wants a plan that keeps all slopes.
func (k keeping) latest(plan []row, year, slope int) int {
	for last := len(plan) - 1; last > year; last-- {
		if plan[last][slope] != nothing {
			continue
		}
		other := slices.Clone(plan)
		other[last][slope], other[year][slope] = plan[year][slope], nothing
		if k.mayBe(other[last]) && k.keeps(other) {
			return last
		}
	}
	return year
}
