package mend

import (
	"strings"

	"thatch/api"
	"thatch/fault"
	"thatch/words"
)

func write(w api.Works) string {
	var text strings.Builder
	words.WriteLine(&text, "works", w.Years, w.Visit, w.Hands)
	for _, s := range w.Slopes {
		words.WriteLine(&text, "slope", append([]int{s.Now, s.Need, s.Full, s.Size}, s.Takes...)...)
	}
	for _, c := range w.Crafts {
		if c.Strip {
			words.WriteLine(&text, "strip", c.Price)
		} else {
			words.WriteLine(&text, "add", c.Add, c.Price)
		}
	}
	return text.String()
}

// read returns the works of a text, which need not be ones that may be, or the line that is wrong.
func read(text string) (api.Works, int, api.Errno) {
	if text == "" {
		return api.Works{}, 0, api.ErrForm
	}
	return words.Read(text, readLine)
}

// readLine takes the line works, and no other, as the first one, and no slope behind a craft.
func readLine(w *api.Works, line int, parts []string) {
	n, ok := words.Numbers(parts[1:])
	fault.Unless(ok && (parts[0] == "works") == (line == 1), api.ErrForm)
	switch word := parts[0]; {
	case word == "works" && len(n) == 3:
		w.Years, w.Visit, w.Hands = n[0], n[1], n[2]
	case word == "slope" && len(n) >= 4 && len(w.Crafts) == 0:
		w.Slopes = append(w.Slopes, api.Slope{Now: n[0], Need: n[1], Full: n[2], Size: n[3], Takes: n[4:]})
	case word == "add" && len(n) == 2:
		w.Crafts = append(w.Crafts, api.Craft{Add: n[0], Price: n[1]})
	case word == "strip" && len(n) == 1:
		w.Crafts = append(w.Crafts, api.Craft{Price: n[0], Strip: true})
	default:
		panic(api.ErrForm)
	}
}
