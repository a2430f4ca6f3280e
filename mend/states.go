package mend

import (
	"cmp"
	"slices"

	"thatch/api"
	"thatch/fault"
	"thatch/numbers"
)

// state is a year, and how thick each slope is at its beginning, with 0 behind the last one.
type state struct {
	year  int
	thick [api.MaxSlopes]int
}

func stateOf(year int, thick []int) state {
	s := state{year: year}
	copy(s.thick[:], thick)
	return s
}

func (s state) compare(o state) int {
	return cmp.Or(cmp.Compare(s.year, o.year), slices.Compare(s.thick[:], o.thick[:]))
}

// list returns how thick so many slopes are.
func (s state) list(count int) []int { return slices.Clone(s.thick[:count]) }

// start returns the state in which the works are now.
func (k keeping) start() state {
	var s state
	for i, slope := range k.works.Slopes {
		s.thick[i] = slope.Now
	}
	return s
}

// isState reports whether a year and thicknesses are ones from which on slopes may be kept.
func (k keeping) isState(year int, thick []int) bool {
	if !numbers.IsFrom(year, 0, k.works.Years) || len(thick) != len(k.works.Slopes) {
		return false
	}
	for i, s := range k.works.Slopes {
		if !numbers.IsFrom(thick[i], 0, s.Full) {
			return false
		}
	}
	return true
}

// states returns a state and all that can be come to from there. It panics if these are too many.
func (k keeping) states(from state) []state {
	w := waitingFor(from)
	for s := range w.all {
		for x := range k.steps(s) {
			w.push(x.to)
			fault.Unless(len(w.list) <= api.MaxStates, api.ErrLimit)
		}
	}
	return w.list
}
