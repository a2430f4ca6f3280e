package yard

import (
	"thatch/api"
	"thatch/coat"
	"thatch/fault"
	"thatch/words"
)

// Texts of pages that are of no lower layer.

func parseArea(text string) (api.Area, int, api.Errno) {
	return parse(text, readCorner, coat.CheckArea)
}

func parseRule(text string) (api.Custom, int, api.Errno) {
	if text == "" {
		return api.Custom{}, 0, api.ErrForm
	}
	return parse(text, readRule, coat.CheckCustom)
}

func parseCrew(text string) (api.Crew, int, api.Errno) {
	if text == "" {
		return api.Crew{}, 0, api.ErrForm
	}
	return parse(text, readCrew, CheckCrew)
}

// parse returns the value of a text, and its error, which is one of a line or, with 0, one of the value.
func parse[T any](text string, take func(*T, int, []string), check func(T) api.Errno) (T, int, api.Errno) {
	value, line, e := words.Read(text, take)
	if e == api.OK {
		e = check(value)
	}
	return value, line, e
}

// readCorner adds a corner or a hole. Behind a hole there is no corner.
func readCorner(a *api.Area, _ int, parts []string) {
	switch word := parts[0]; {
	case word == "corner" && len(a.Holes) == 0:
		n := words.NumbersBehind(parts, 1, 2)
		a.Outline = append(a.Outline, api.Pt{U: n[0], V: n[1]})
	case word == "hole":
		n := words.NumbersBehind(parts, 1, 4)
		a.Holes = append(a.Holes, api.Box{From: api.Pt{U: n[0], V: n[1]}, To: api.Pt{U: n[2], V: n[3]}})
	default:
		panic(api.ErrForm)
	}
}

// readRule takes one line, and no other behind it.
func readRule(m *api.Custom, line int, parts []string) {
	fault.Unless(line == 1 && parts[0] == "rule", api.ErrForm)
	n := words.NumbersBehind(parts, 1, 8)
	*m = api.Custom{
		Layers: n[0],
		Eave:   api.Span{Low: n[1], High: n[2]},
		Gauge:  api.Span{Low: n[3], High: n[4]},
		Side:   n[5],
		Break:  n[6],
		Lean:   n[7],
	}
}

// readCrew takes the line crew, and no other, as the first one.
func readCrew(c *api.Crew, line int, parts []string) {
	word := parts[0]
	switch {
	case word == "crew" && line == 1:
		n := words.NumbersBehind(parts, 1, 2)
		c.Men, c.Ladders = n[0], n[1]
	case word == "task" && line > 1:
		n := words.NumbersBehind(parts, 2, max(3, len(parts)-2))
		fault.Unless(parts[1] != "", api.ErrForm)
		c.Tasks = append(c.Tasks, api.Task{Name: parts[1], Days: n[0], Men: n[1], Ladders: n[2], After: n[3:]})
	default:
		panic(api.ErrForm)
	}
}
