package wear

import (
	"slices"

	"thatch/api"
	"thatch/fault"
)

func copyOf(s api.Skin) api.Skin {
	s.Area = api.Area{Outline: slices.Clone(s.Area.Outline), Holes: slices.Clone(s.Area.Holes)}
	s.Marks = slices.Clone(s.Marks)
	return s
}

// bounds returns the thicknesses that a point may have, or nothing if there are none.
func bounds(s api.Skin, p api.Pt) api.Span {
	b := s.Thick
	for _, m := range s.Marks {
		b = common(b, widened(m.Thick, s.Steep*distance(m.At, p)))
	}
	return b
}

// probed returns a skin with one mark more, or with what this mark says in the one that is there. If both have nothing in common, the point has no bounds.
func probed(s api.Skin, m api.Mark) api.Skin {
	next := copyOf(s)
	next.Marks = with(s.Marks, m, compareMarks, joined)
	fault.Unless(len(next.Marks) <= api.MaxMarks, api.ErrLimit)
	requireThicknesses(next)
	return next
}

// behind returns the skin behind a season.
func behind(s api.Skin, take api.Span, gain int) api.Skin {
	next := copyOf(s)
	next.Steep += gain
	next.Thick = lessened(s.Thick, take)
	for i, m := range s.Marks {
		next.Marks[i].Thick = lessened(m.Thick, take)
	}
	return next
}

// seasons returns the skins behind no season, behind one, and so on, up to MaxSeasons, or as many as Steep allows.
func seasons(s api.Skin, take api.Span, gain int) []api.Skin {
	list := []api.Skin{s}
	for len(list) <= api.MaxSeasons && s.Steep+gain <= api.MaxSteep {
		s = behind(s, take, gain)
		list = append(list, s)
	}
	return list
}

func keeps(s api.Skin, need int) api.Known {
	if isSure(s, need) {
		return api.KnYes
	}
	if f, ok := least(s, func(b api.Span) int { return b.High - need }); ok && f.size < 0 {
		return api.KnNo
	}
	return api.KnOpen
}

// isSure reports whether no point may have a thickness below need.
func isSure(s api.Skin, need int) bool {
	f, ok := least(s, func(b api.Span) int { return b.Low - need })
	return !ok || f.size >= 0
}
