package fire

import (
	"cmp"
	"slices"

	"thatch/api"
	"thatch/numbers"
)

// none is the number of a strip that there is not.
const none = -1

// maxProved is the greatest time that a proof may tell.
const maxProved = 1000000

// attempt is a ground that may be, with a plan, and when each strip of the plan is cleared.
type attempt struct {
	ground  api.Ground
	plan    []int
	cleared []int
}

// attemptOf panics unless there may be such a ground and such a plan.
func attemptOf(g api.Ground, plan []int) attempt {
	requireGround(g)
	requirePlan(g, plan)
	return follow(g, plan)
}

// follow follows the gang from strip to strip.
func follow(g api.Ground, plan []int) attempt {
	a := attempt{ground: g, plan: plan}
	at, time := g.Base, 0
	for _, number := range plan {
		s := g.Strips[number]
		time += max(at-s.At, s.At-at) + s.Work
		at = s.At
		a.cleared = append(a.cleared, time)
	}
	return a
}

// done returns when the last strip is cleared, 0 if there is none.
func (a attempt) done() int {
	if len(a.cleared) == 0 {
		return 0
	}
	return a.cleared[len(a.cleared)-1]
}

// compare tells which of two attempts is done first, or which one has the lesser plan if both are at the same time.
func (a attempt) compare(o attempt) int {
	return cmp.Or(cmp.Compare(a.done(), o.done()), slices.Compare(a.plan, o.plan))
}

// stops returns what tells whether a path stops fire that would come to its end at a time.
func (a attempt) stops() func(path, time int) bool {
	cleared := map[int]int{}
	// The first strip with a path clears it: it comes last here.
	for i, number := range slices.Backward(a.plan) {
		for _, path := range a.ground.Strips[number].Paths {
			cleared[path] = a.cleared[i]
		}
	}
	return func(path, time int) bool {
		since, ok := cleared[path]
		return ok && since < time
	}
}

// overtaken returns the first strip of the plan whose site may burn before it is cleared, or none. The strips behind it are cleared later, so they hold up nothing that comes before.
func (a attempt) overtaken() int {
	earliest := a.times(fastest)
	for i, number := range a.plan {
		if t := earliest[a.ground.Strips[number].Site]; t != never && t < a.cleared[i] {
			return i
		}
	}
	return none
}

// keeps reports whether the plan is allowed, and none of some sites may burn at a time.
func (a attempt) keeps(sites []int, time int) bool {
	earliest := a.times(fastest)
	burns := func(site int) bool { return isBy(time, earliest[site]) }
	return a.overtaken() == none && !slices.ContainsFunc(sites, burns)
}

// proves reports whether fire that is at each site at the time of a list comes to none before its time.
func (a attempt) proves(earliest []int) bool {
	isWrong := func(t int) bool { return !numbers.IsFrom(t, never, maxProved) }
	if len(earliest) != len(a.ground.Sites) || slices.ContainsFunc(earliest, isWrong) {
		return false
	}
	for _, s := range a.ground.Sparks {
		if !isBy(s.Time, earliest[s.Site]) {
			return false
		}
	}
	stopped := a.stops()
	for i, p := range a.ground.Paths {
		if earliest[p.From] == never {
			continue
		}
		if t := earliest[p.From] + p.Time.Low; !stopped(i, t) && !isBy(t, earliest[p.To]) {
			return false
		}
	}
	return true
}
