package wear

import (
	"cmp"
	"math"
	"sync"

	"thatch/api"
	"thatch/fault"
)

// found is a point, and the size that its bounds have.
type found struct {
	size int
	at   api.Pt
}

func (f found) compare(o found) int {
	return cmp.Or(cmp.Compare(f.size, o.size), comparePoints(f.at, o.at))
}

// least returns the first point whose bounds have the least size, and whether there is a point.
func least(s api.Skin, size func(api.Span) int) (best found, ok bool) {
	sent := make(chan found, api.MaxPlace+1)
	var group sync.WaitGroup
	for row := range rows(s.Area) {
		group.Go(func() { sent <- leastOf(s, row, size) })
	}
	group.Wait()
	close(sent)
	for f := range sent {
		if !ok || f.compare(best) < 0 {
			best, ok = f, true
		}
	}
	return best, ok
}

// leastOf returns the first point of a row whose bounds have the least size there.
func leastOf(s api.Skin, row []api.Pt, size func(api.Span) int) found {
	best := found{size: math.MaxInt}
	for _, p := range row {
		if n := size(bounds(s, p)); n < best.size {
			best = found{n, p}
		}
	}
	return best
}

// findLeast wants a skin that may be, with a point.
func findLeast(s api.Skin, size func(api.Span) int) found {
	requireSkin(s)
	f, ok := least(s, size)
	fault.Unless(ok, api.ErrScope)
	return f
}
