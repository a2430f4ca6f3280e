package coat

import "thatch/api"

// pattern is how bundles of a make are laid: the line of the first course, the step up from a course to the next one, the step aside from a bundle to the next one, and half of it.
type pattern struct {
	bundles                api.Make
	first, up, aside, half int
}

// patternOf returns the pattern by which bundles of a make keep a custom, and whether there is one.
func patternOf(m api.Custom, k api.Make) (pattern, bool) {
	w := pattern{bundles: k, up: min(m.Gauge.High, k.Length/m.Layers), aside: k.Width - max(m.Side, 2*k.Taper)}
	w.half = w.aside / 2
	w.first = min(m.Eave.High, -(m.Layers-1)*w.up)
	if w.up < m.Gauge.Low || w.aside < 1 || w.half < m.Break || w.first < m.Eave.Low {
		return pattern{}, false
	}
	return w, true
}

func (w pattern) lay(outline []api.Pt) (api.Coat, api.Errno) {
	far := farthest(outline)
	var c api.Coat
	count := 0
	for v := w.first; v <= far.V; v += w.up {
		bundles := w.course(len(c.Courses), far.U)
		c.Courses = append(c.Courses, api.Course{V: v, Bundles: bundles})
		count += len(bundles)
		if len(c.Courses) > api.MaxCourses || count > api.MaxBundles {
			return api.Coat{}, api.ErrLimit
		}
	}
	return c, api.OK
}

// course returns the bundles of the course with that number, up to the first one whose top ends at right or beyond it.
func (w pattern) course(number, right int) []api.Bundle {
	u := -w.bundles.Taper
	if number%2 == 1 {
		u += w.half - w.aside
	}
	end := w.bundles.Width - w.bundles.Taper
	list := []api.Bundle{bundleOf(w.bundles, u)}
	for u+end < right {
		u += w.aside
		list = append(list, bundleOf(w.bundles, u))
	}
	return list
}
