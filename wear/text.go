package wear

import (
	"strings"

	"thatch/api"
	"thatch/fault"
	"thatch/words"
)

func write(s api.Skin) string {
	var text strings.Builder
	words.WriteLine(&text, "skin", s.Steep, s.Thick.Low, s.Thick.High)
	for _, p := range s.Area.Outline {
		words.WriteLine(&text, "corner", p.U, p.V)
	}
	for _, h := range s.Area.Holes {
		words.WriteLine(&text, "hole", h.From.U, h.From.V, h.To.U, h.To.V)
	}
	for _, m := range s.Marks {
		words.WriteLine(&text, "mark", m.At.U, m.At.V, m.Thick.Low, m.Thick.High)
	}
	return text.String()
}

// read returns the skin of a text, which need not be one that may be, or the line that is wrong.
func read(text string) (api.Skin, int, api.Errno) {
	if text == "" {
		return api.Skin{}, 0, api.ErrForm
	}
	return words.Read(text, readLine)
}

func readLine(s *api.Skin, line int, parts []string) {
	n, ok := words.Numbers(parts[1:])
	fault.Unless(ok, api.ErrForm)
	if line == 1 {
		readSkin(s, parts[0], n)
	} else {
		readPart(s, parts[0], n)
	}
}

func readSkin(s *api.Skin, word string, n []int) {
	fault.Unless(word == "skin" && len(n) == 3, api.ErrForm)
	s.Steep, s.Thick = n[0], api.Span{Low: n[1], High: n[2]}
}

// readPart adds a corner, a hole or a mark. Behind a hole there is no corner, and behind a mark there is none of both.
func readPart(s *api.Skin, word string, n []int) {
	a := &s.Area
	switch {
	case word == "corner" && len(n) == 2 && len(a.Holes)+len(s.Marks) == 0:
		a.Outline = append(a.Outline, api.Pt{U: n[0], V: n[1]})
	case word == "hole" && len(n) == 4 && len(s.Marks) == 0:
		a.Holes = append(a.Holes, api.Box{From: api.Pt{U: n[0], V: n[1]}, To: api.Pt{U: n[2], V: n[3]}})
	case word == "mark" && len(n) == 4:
		s.Marks = append(s.Marks, api.Mark{At: api.Pt{U: n[0], V: n[1]}, Thick: api.Span{Low: n[2], High: n[3]}})
	default:
		panic(api.ErrForm)
	}
}
