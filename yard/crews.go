package yard

import (
	"slices"

	"thatch/api"
	"thatch/fault"
	"thatch/numbers"
	"thatch/words"
)

// latestStart is the greatest start that a task may be given.
const latestStart = 1000

func requireCrew(c api.Crew) {
	fault.Unless(isMany(c.Men) && isMany(c.Ladders), api.ErrArg)
	fault.Unless(len(c.Tasks) <= api.MaxTasks, api.ErrLimit)
	for i := range c.Tasks {
		requireTask(c, i)
	}
}

func requireTask(c api.Crew, number int) {
	t := c.Tasks[number]
	fault.Unless(words.IsName(t.Name), api.ErrName)
	fault.Unless(!slices.ContainsFunc(c.Tasks[:number], func(o api.Task) bool { return o.Name == t.Name }), api.ErrTwice)
	fault.Unless(numbers.IsFrom(t.Days, 1, api.MaxDays) && isMany(t.Men) && isMany(t.Ladders), api.ErrArg)
	fault.Unless(t.Men <= c.Men && t.Ladders <= c.Ladders, api.ErrScope)
	fault.Unless(numbers.Rise(t.After), api.ErrArg)
	for _, before := range t.After {
		fault.Unless(numbers.IsFrom(before, 0, number-1), api.ErrNone)
	}
}

// isMany reports whether a crew may have n men, or n ladders.
func isMany(n int) bool { return numbers.IsFrom(n, 0, api.MaxMen) }

// areStarts reports whether a list has a start for each task.
func areStarts(c api.Crew, list []int) bool {
	return len(list) == len(c.Tasks) && !slices.ContainsFunc(list, func(n int) bool { return !numbers.IsFrom(n, 0, latestStart) })
}

// longestRow returns the most days of a row of tasks that can only be done one behind the other.
func longestRow(tasks []api.Task) int {
	longest := 0
	rows := make([]int, len(tasks))
	for i, t := range tasks {
		for _, before := range t.After {
			rows[i] = max(rows[i], rows[before])
		}
		rows[i] += t.Days
		longest = max(longest, rows[i])
	}
	return longest
}

func menOf(t api.Task) int { return t.Men }

func laddersOf(t api.Task) int { return t.Ladders }

// daysOf returns in how few days so many men, or ladders, do as much as all tasks ask of them.
func daysOf(many int, tasks []api.Task, asked func(api.Task) int) int {
	if many == 0 {
		return 0
	}
	all := 0
	for _, t := range tasks {
		all += t.Days * asked(t)
	}
	return (all + many - 1) / many
}
