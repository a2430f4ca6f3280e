package yard

import (
	"math"
	"slices"

	"thatch/api"
)

// unset is the start of a task that has none yet.
const unset = -1

// schedule is a crew that may be, with a start for each task, or unset.
type schedule struct {
	crew   api.Crew
	starts []int
}

// done returns the first day after the last one of a task that has a start.
func (s schedule) done(number int) int { return s.starts[number] + s.crew.Tasks[number].Days }

// ready returns the first day on which all tasks After which a task is are done.
func (s schedule) ready(number int) int {
	day := 0
	for _, before := range s.crew.Tasks[number].After {
		day = max(day, s.done(before))
	}
	return day
}

// days returns how many days pass until all tasks that have a start are done.
func (s schedule) days() int {
	days := 0
	for i, start := range s.starts {
		if start != unset {
			days = max(days, s.done(i))
		}
	}
	return days
}

// has reports whether on a day there are so many men and ladders more than are needed for the tasks that are under way.
func (s schedule) has(day, men, ladders int) bool {
	for i, start := range s.starts {
		if start != unset && start <= day && day < s.done(i) {
			men += s.crew.Tasks[i].Men
			ladders += s.crew.Tasks[i].Ladders
		}
	}
	return men <= s.crew.Men && ladders <= s.crew.Ladders
}

// mayBe reports whether the starts, of which none is unset, may be. No day needs more than one on which a task begins.
func (s schedule) mayBe() bool {
	for i, start := range s.starts {
		if start < s.ready(i) || !s.has(start, 0, 0) {
			return false
		}
	}
	return true
}

// fits reports whether a task that has no start yet may be under way from a day on, beside those that have one.
func (s schedule) fits(number, start int) bool {
	t := s.crew.Tasks[number]
	for day := range t.Days {
		if !s.has(start+day, t.Men, t.Ladders) {
			return false
		}
	}
	return true
}

// first returns the first day, from one on, from which a task fits.
func (s schedule) first(number, day int) int {
	for !s.fits(number, day) {
		day++
	}
	return day
}

// fewest returns in how few days all tasks can be done if those that have a start keep it. The others are put in one by one, in each order, each as early as it fits: where they are put in in the order of any starts that may be, none starts later than there.
func (s schedule) fewest() int {
	fewest := math.MaxInt
	var put func()
	put = func() {
		next := s.next()
		if len(next) == 0 {
			fewest = min(fewest, s.days())
		}
		for _, number := range next {
			s.starts[number] = s.first(number, s.ready(number))
			put()
			s.starts[number] = unset
		}
	}
	put()
	return fewest
}

// next returns the tasks that have no start yet, while all those have one After which they are.
func (s schedule) next() []int {
	var list []int
	for i, t := range s.crew.Tasks {
		isOpen := func(number int) bool { return s.starts[number] == unset }
		if isOpen(i) && !slices.ContainsFunc(t.After, isOpen) {
			list = append(list, i)
		}
	}
	return list
}

// allows reports whether all tasks can still be done in so many days if one of them starts on a day on which it fits.
func (s schedule) allows(days, number, start int) bool {
	s.starts[number] = start
	fewest := s.fewest()
	s.starts[number] = unset
	return fewest <= days
}

// fastest returns the least starts of those that take the fewest days.
func fastest(c api.Crew) schedule {
	s := schedule{c, slices.Repeat([]int{unset}, len(c.Tasks))}
	days := s.fewest()
	for i := range c.Tasks {
		start := s.first(i, s.ready(i))
		for !s.allows(days, i, start) {
			start = s.first(i, start+1)
		}
		s.starts[i] = start
	}
	return s
}
