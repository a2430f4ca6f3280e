package mend

import (
	"slices"

	"thatch/api"
	"thatch/numbers"
)

// values returns a state with all that can be come to from there, and how to look up what it costs at least to keep all slopes from one of these on: MaxPaid if that cannot be done.
func (k keeping) values(from state) (states []state, value func(state) int) {
	states = k.states(from)
	known := map[state]int{}
	value = func(s state) int {
		if s.year == k.works.Years {
			return 0
		}
		if cost, ok := known[s]; ok {
			return cost
		}
		least := api.MaxPaid
		for x := range k.steps(s) {
			least = min(least, x.cost+value(x.to))
		}
		known[s] = least
		return least
	}
	return states, value
}

// least returns what it costs at least to keep all slopes from a state on, and whether that can be done.
func (k keeping) least(from state) (cost int, found bool) {
	_, value := k.values(from)
	if cost := value(from); cost < api.MaxPaid {
		return cost, true
	}
	return 0, false
}

func (k keeping) worths() []api.Worth {
	states, value := k.values(k.start())
	slices.SortFunc(states, state.compare)
	var list []api.Worth
	for _, s := range states {
		if s.year < k.works.Years {
			list = append(list, api.Worth{Year: s.year, Thick: s.list(len(k.works.Slopes)), Cost: value(s)})
		}
	}
	return list
}

func (k keeping) cheapest() (plan [][]int, cost int, found bool) {
	s := k.start()
	_, value := k.values(s)
	if cost = value(s); cost == api.MaxPaid {
		return nil, 0, false
	}
	for s.year < k.works.Years {
		x := k.best(s, value)
		plan = append(plan, x.row.list(len(k.works.Slopes)))
		s = x.to
	}
	return plan, cost, true
}

// best returns the first step of those with which it costs least to keep all slopes from a state on. It wants a state from which that can be done.
func (k keeping) best(from state, value func(state) int) (first step) {
	for x := range k.steps(from) {
		if x.cost+value(x.to) == value(from) {
			first = x
			break
		}
	}
	return first
}

// told returns the values that a list tells of states, and whether it is a list that may tell them.
func (k keeping) told(l []api.Worth) (values map[state]int, ok bool) {
	values = map[state]int{}
	var ahead state
	for i, x := range l {
		if !k.isState(x.Year, x.Thick) || x.Year == k.works.Years || !numbers.IsFrom(x.Cost, 0, api.MaxPaid) {
			return nil, false
		}
		s := stateOf(x.Year, x.Thick)
		if i > 0 && ahead.compare(s) >= 0 {
			return nil, false
		}
		values[s], ahead = x.Cost, s
	}
	return values, true
}

// proves reports whether a list shows that no plan costs less: no step costs less than by how much the values on both sides of it differ.
func (k keeping) proves(least int, l []api.Worth) bool {
	values, ok := k.told(l)
	if !ok {
		return false
	}
	value := func(s state) (int, bool) {
		cost, ok := values[s]
		return cost, ok || s.year == k.works.Years
	}
	if cost, ok := value(k.start()); !ok || cost < least {
		return false
	}
	for s, cost := range values {
		for x := range k.steps(s) {
			if behind, ok := value(x.to); !ok || cost > x.cost+behind {
				return false
			}
		}
	}
	return true
}
