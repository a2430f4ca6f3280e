package wear_test

import (
	"math/rand"

	"thatch/api"
)

// What the tests hold the program against, found in other ways.

// comparePlaces is below 0 for a point that is ahead of another one.
func comparePlaces(p, q api.Pt) int { return (p.V-q.V)*1000 + p.U - q.U }

func farAway(p, q api.Pt) int {
	n := 0
	for _, d := range []int{p.U - q.U, p.V - q.V} {
		if d < 0 {
			d = -d
		}
		n += d
	}
	return n
}

// isIn counts how often the way to the right goes over sides of the outline.
func isIn(a api.Area, p api.Pt) bool {
	over := false
	for i, from := range a.Outline {
		to := a.Outline[(i+1)%len(a.Outline)]
		if from.V > to.V {
			from, to = to, from
		}
		// Above 0 if p is to the left of the side, which leads up.
		left := (to.U-from.U)*(p.V-from.V) - (to.V-from.V)*(p.U-from.U)
		if left == 0 && p.V >= from.V && p.V <= to.V && p.U >= min(from.U, to.U) && p.U <= max(from.U, to.U) {
			return !isInHole(a, p)
		}
		if p.V >= from.V && p.V < to.V && left > 0 {
			over = !over
		}
	}
	return over && !isInHole(a, p)
}

func isInHole(a api.Area, p api.Pt) bool {
	for _, h := range a.Holes {
		if !(p.U <= h.From.U || p.U >= h.To.U || p.V <= h.From.V || p.V >= h.To.V) {
			return true
		}
	}
	return false
}

// allPoints returns the points of an area, in order.
func allPoints(a api.Area) []api.Pt {
	far := 0
	for _, p := range a.Outline {
		far = max(far, p.U, p.V)
	}
	var list []api.Pt
	for v := range far + 1 {
		for u := range far + 1 {
			if isIn(a, pt(u, v)) {
				list = append(list, pt(u, v))
			}
		}
	}
	return list
}

// thicknesses are those of the points of a skin.
type thicknesses map[api.Pt]int

// isTrue reports whether the thicknesses are as a skin says.
func isTrue(s api.Skin, real thicknesses) bool {
	for p, n := range real {
		if n < s.Thick.Low || n > s.Thick.High {
			return false
		}
		for q, m := range real {
			if n-m > s.Steep*farAway(p, q) {
				return false
			}
		}
	}
	for _, m := range s.Marks {
		if n, ok := real[m.At]; !ok || n < m.Thick.Low || n > m.Thick.High {
			return false
		}
	}
	return true
}

// settled begins with what is said of each point by itself, and takes away what no other point goes with, until nothing is to be taken away; it reports whether something is left for each point.
func settled(s api.Skin) (lows, highs thicknesses, ok bool) {
	points := allPoints(s.Area)
	lows, highs = thicknesses{}, thicknesses{}
	for _, p := range points {
		lows[p], highs[p] = s.Thick.Low, s.Thick.High
	}
	for _, m := range s.Marks {
		lows[m.At], highs[m.At] = max(lows[m.At], m.Thick.Low), min(highs[m.At], m.Thick.High)
	}
	for again := true; again; {
		again = false
		for _, p := range points {
			for _, q := range points {
				d := s.Steep * farAway(p, q)
				if lows[q]-d > lows[p] {
					lows[p], again = lows[q]-d, true
				}
				if highs[q]+d < highs[p] {
					highs[p], again = highs[q]+d, true
				}
			}
		}
		for _, p := range points {
			if lows[p] > highs[p] {
				return nil, nil, false
			}
		}
	}
	return lows, highs, true
}

// random returns thicknesses that are as a skin says, chosen point by point.
func random(rng *rand.Rand, s api.Skin) thicknesses {
	lows, highs, _ := settled(s)
	points := allPoints(s.Area)
	real := thicknesses{}
	for _, i := range rng.Perm(len(points)) {
		p := points[i]
		low, high := lows[p], highs[p]
		for q, n := range real {
			d := s.Steep * farAway(p, q)
			low, high = max(low, n-d), min(high, n+d)
		}
		real[p] = []int{low, high, between(rng, low, high)}[rng.Intn(3)]
	}
	return real
}
