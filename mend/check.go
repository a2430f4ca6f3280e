package mend

import (
	"slices"

	"thatch/api"
	"thatch/fault"
	"thatch/numbers"
)

func requireWorks(w api.Works) {
	fault.Unless(len(w.Slopes) <= api.MaxSlopes, api.ErrLimit)
	fault.Unless(len(w.Slopes) > 0, api.ErrArg)
	for _, s := range w.Slopes {
		requireSlope(s)
	}
	fault.Unless(len(w.Crafts) <= api.MaxCrafts, api.ErrLimit)
	for _, c := range w.Crafts {
		fault.Unless(isCraft(c), api.ErrArg)
	}
	fault.Unless(numbers.IsFrom(w.Years, 0, api.MaxYears), api.ErrArg)
	fault.Unless(numbers.IsFrom(w.Visit, 0, api.MaxVisit), api.ErrArg)
	fault.Unless(numbers.IsFrom(w.Hands, 0, api.MaxSlopes), api.ErrArg)
}

func requireSlope(s api.Slope) {
	fault.Unless(numbers.IsFrom(s.Full, 1, api.MaxThick), api.ErrArg)
	fault.Unless(numbers.IsFrom(s.Need, 0, s.Full), api.ErrArg)
	fault.Unless(numbers.IsFrom(s.Now, 0, s.Full), api.ErrArg)
	fault.Unless(numbers.IsFrom(s.Size, 1, api.MaxSize), api.ErrArg)
	fault.Unless(len(s.Takes) <= api.MaxTakes, api.ErrLimit)
	for _, n := range s.Takes {
		fault.Unless(numbers.IsFrom(n, 0, api.MaxTake), api.ErrArg)
	}
}

func isCraft(c api.Craft) bool {
	return numbers.IsFrom(c.Price, 0, api.MaxPrice) && numbers.IsFrom(c.Add, 0, api.MaxThick) && (c.Add == 0 || !c.Strip)
}

func copyOf(w api.Works) api.Works {
	w.Slopes, w.Crafts = slices.Clone(w.Slopes), slices.Clone(w.Crafts)
	for i, s := range w.Slopes {
		w.Slopes[i].Takes = slices.Clone(s.Takes)
	}
	return w
}
