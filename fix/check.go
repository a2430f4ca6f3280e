package fix

import (
	"slices"

	"thatch/api"
	"thatch/fault"
	"thatch/numbers"
	"thatch/words"
)

// check returns the first error of a net that may have so many ties.
func check(n api.Net, mostTies int) api.Errno {
	return fault.Of(func() {
		requireThings(n.Things)
		fault.Unless(len(n.Ties) <= mostTies, api.ErrLimit)
		requireTies(n)
		fault.Unless(!isCircle(n), api.ErrLoop)
	})
}

func requireThings(things []api.Thing) {
	fault.Unless(len(things) <= api.MaxHung, api.ErrLimit)
	for i, x := range things {
		fault.Unless(words.IsName(x.Name), api.ErrName)
		fault.Unless(findThing(things[:i], x.Name) < 0, api.ErrTwice)
		fault.Unless(numbers.IsFrom(x.Weight, 0, api.MaxWeight) && numbers.IsFrom(x.Bears, 0, api.MaxBears), api.ErrArg)
	}
}

func requireTies(n api.Net) {
	last := len(n.Things) - 1
	for _, t := range n.Ties {
		fault.Unless(numbers.IsFrom(t.From, 0, last) && numbers.IsFrom(t.To, 0, last), api.ErrNone)
		fault.Unless(t.From != t.To && numbers.IsFrom(t.Most, 0, api.MaxBears), api.ErrArg)
		fault.Unless(!n.Things[t.From].Ground, api.ErrScope)
	}
}

// isCircle reports whether some thing hangs on itself. If one does there are ways down of any length; if none does each of them has fewer ties than there are things.
func isCircle(n api.Net) bool {
	// How many ties the longest way has that is known to lead to a thing. Each round finds a longer one around a circle.
	longest := make([]int, len(n.Things))
	for range n.Things {
		for _, t := range n.Ties {
			longest[t.To] = max(longest[t.To], longest[t.From]+1)
		}
	}
	return slices.ContainsFunc(longest, func(ties int) bool { return ties >= len(n.Things) })
}

func findThing(things []api.Thing, name string) int {
	return slices.IndexFunc(things, func(x api.Thing) bool { return x.Name == name })
}
