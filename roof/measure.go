package roof

import (
	"thatch/api"
	"thatch/numbers"
)

// ownMeasure returns how points of the plan are seen by somebody who looks up a face that falls to this side: U to the right, V up. All four turn the plan and mirror nothing, so left and right of a line stay.
func ownMeasure(s api.Side) func(api.At) api.Pt {
	sides := [4]func(api.At) api.Pt{
		func(p api.At) api.Pt { return api.Pt{U: p.X, V: p.Y} },
		func(p api.At) api.Pt { return api.Pt{U: p.Y, V: -p.X} },
		func(p api.At) api.Pt { return api.Pt{U: -p.X, V: -p.Y} },
		func(p api.At) api.Pt { return api.Pt{U: -p.Y, V: p.X} },
	}
	return sides[s-api.SiSouth]
}

// heightAt measures from the point (Foot, Foot), which is on the line of Foot whichever way that runs.
func heightAt(f api.Face, p api.At) api.Ratio {
	own := ownMeasure(f.Side)
	up := own(p).V - own(api.At{X: f.Foot, Y: f.Foot}).V
	return numbers.LowestTerms(f.Base*f.Run+f.Rise*up, f.Run)
}

func compare(a, b api.Ratio) sign { return signOf(a.Num*b.Den - b.Num*a.Den) }

// seen returns how far an edge leads to the right and up, in the own measure of a face.
func seen(f api.Face, e edge) api.Pt {
	own := ownMeasure(f.Side)
	from, to := own(e.from), own(e.to)
	return api.Pt{U: to.U - from.U, V: to.V - from.V}
}

func isLevel(f api.Face, e edge) bool { return seen(f, e).V == 0 }

// climb tells how the face rises from its edge, going straight away from it into the outline. That way lies to the left of the edge, so it leads up if the edge leads to the right.
func climb(f api.Face, e edge) sign { return signOf(seen(f, e).U) }

func layFace(r api.Roof, face int) (api.Area, api.Errno) {
	f := r.Faces[face]
	own := ownMeasure(f.Side)
	var laid api.Area
	for _, p := range f.Corners {
		laid.Outline = append(laid.Outline, own(p))
	}
	for _, o := range r.Opens {
		if o.Face == face {
			laid.Holes = append(laid.Holes, bounds(own(o.Low), own(o.High)))
		}
	}
	b := bounds(laid.Outline...)
	if b.To.U-b.From.U > api.MaxPlace || b.To.V-b.From.V > api.MaxPlace || len(laid.Holes) > api.MaxHoles {
		return api.Area{}, api.ErrScope
	}
	for i, p := range laid.Outline {
		laid.Outline[i] = less(p, b.From)
	}
	for i, h := range laid.Holes {
		laid.Holes[i] = api.Box{From: less(h.From, b.From), To: less(h.To, b.From)}
	}
	return laid, api.OK
}

// bounds returns the least box with all the points, of which there is at least one.
func bounds(points ...api.Pt) api.Box {
	b := api.Box{From: points[0], To: points[0]}
	for _, p := range points {
		b.From = api.Pt{U: min(b.From.U, p.U), V: min(b.From.V, p.V)}
		b.To = api.Pt{U: max(b.To.U, p.U), V: max(b.To.V, p.V)}
	}
	return b
}

func less(p, by api.Pt) api.Pt { return api.Pt{U: p.U - by.U, V: p.V - by.V} }
