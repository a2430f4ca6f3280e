package fire

import (
	"slices"

	"thatch/api"
	"thatch/fault"
	"thatch/numbers"
	"thatch/words"
)

func requireGround(g api.Ground) {
	fault.Unless(len(g.Sites) <= api.MaxSites, api.ErrLimit)
	for i, name := range g.Sites {
		fault.Unless(words.IsName(name), api.ErrName)
		fault.Unless(!slices.Contains(g.Sites[:i], name), api.ErrTwice)
	}
	fault.Unless(len(g.Paths) <= api.MaxPaths, api.ErrLimit)
	for _, p := range g.Paths {
		fault.Unless(isSite(g, p.From) && isSite(g, p.To), api.ErrNone)
		fault.Unless(p.From != p.To && numbers.IsSpan(p.Time, 1, api.MaxBurn), api.ErrArg)
	}
	fault.Unless(len(g.Strips) <= api.MaxStrips, api.ErrLimit)
	for i := range g.Strips {
		requireStrip(g, i)
	}
	fault.Unless(len(g.Sparks) <= api.MaxSites, api.ErrLimit)
	for _, s := range g.Sparks {
		fault.Unless(isSite(g, s.Site), api.ErrNone)
		fault.Unless(isTime(s.Time), api.ErrArg)
	}
	fault.Unless(isPlace(g.Base), api.ErrArg)
}

func requireStrip(g api.Ground, number int) {
	s := g.Strips[number]
	fault.Unless(words.IsName(s.Name), api.ErrName)
	fault.Unless(!slices.ContainsFunc(g.Strips[:number], func(o api.Strip) bool { return o.Name == s.Name }), api.ErrTwice)
	fault.Unless(isSite(g, s.Site), api.ErrNone)
	fault.Unless(isPlace(s.At) && numbers.IsFrom(s.Work, 0, api.MaxBurn) && numbers.Rise(s.Paths), api.ErrArg)
	for _, path := range s.Paths {
		fault.Unless(numbers.IsFrom(path, 0, len(g.Paths)-1), api.ErrNone)
	}
}

func requirePlan(g api.Ground, plan []int) {
	for i, strip := range plan {
		fault.Unless(numbers.IsFrom(strip, 0, len(g.Strips)-1), api.ErrNone)
		fault.Unless(!slices.Contains(plan[:i], strip), api.ErrTwice)
	}
}

func isSite(g api.Ground, number int) bool { return numbers.IsFrom(number, 0, len(g.Sites)-1) }

func isTime(n int) bool { return numbers.IsFrom(n, 0, api.MaxClock) }

// isPlace reports whether n is a place on the way of the gang.
func isPlace(n int) bool { return numbers.IsFrom(n, 0, api.MaxMile) }
