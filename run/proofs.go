package run

import (
	"slices"

	"thatch/api"
	"thatch/numbers"
)

// areNeeds reports whether a list may be the needs of so many bundles.
func areNeeds(list []int, count int) bool {
	return len(list) == count && !slices.ContainsFunc(list, func(n int) bool { return !numbers.IsFrom(n, -1, api.MaxThick) })
}

// proves reports whether no link leads, with less wear, to a bundle than its need says, nor to a batten than wear says.
func proves(list []api.Link, wear int, needs []int) bool {
	for _, l := range list {
		m := l.Wear
		if l.From != api.RnRain {
			if needs[l.From] < 0 {
				continue
			}
			m = max(m, needs[l.From])
		}
		switch to := placeOf(l.To).(type) {
		case batten:
			if wear > m {
				return false
			}
		case bundle:
			if !numbers.IsFrom(needs[to], 0, m) {
				return false
			}
		}
	}
	return true
}

// Limits of the years that Lasts tells.
const (
	maxTakes = 100
	maxLasts = 1000
)

func areTakes(takes []int) bool {
	return numbers.IsFrom(len(takes), 1, maxTakes) && !slices.ContainsFunc(takes, func(n int) bool { return !numbers.IsFrom(n, 0, api.MaxThick) })
}

// lasts returns after how many years, at most, the wear is less than the need, -1 if it never is.
func lasts(need int, takes []int) int {
	if need == 0 {
		return -1
	}
	wear := 0
	for year := range maxLasts {
		wear += takes[year%len(takes)]
		if wear >= need {
			return year
		}
	}
	return maxLasts
}
