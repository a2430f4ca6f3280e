package fix

import (
	"slices"
	"strings"

	"thatch/api"
	"thatch/fault"
	"thatch/words"
)

func write(n api.Net) string {
	var text strings.Builder
	for _, x := range n.Things {
		kind := " hung"
		if x.Ground {
			kind = " ground"
		}
		words.WriteLine(&text, "thing "+x.Name+kind, x.Weight, x.Bears)
	}
	for _, t := range n.Ties {
		words.WriteLine(&text, "tie "+n.Things[t.From].Name+" "+n.Things[t.To].Name, t.Most)
	}
	return text.String()
}

// read returns the net of a text, which need not be one that may be, or the line that is wrong.
func read(text string) (api.Net, int, api.Errno) { return words.Read(text, readLine) }

func readLine(n *api.Net, _ int, parts []string) {
	fault.Unless(!slices.Contains(parts, ""), api.ErrForm)
	switch {
	case parts[0] == "thing" && len(n.Ties) == 0:
		n.Things = append(n.Things, readThing(parts[1:]))
	case parts[0] == "tie":
		n.Ties = append(n.Ties, readTie(n.Things, parts[1:]))
	default:
		panic(api.ErrForm)
	}
}

func readThing(parts []string) api.Thing {
	fault.Unless(len(parts) == 4 && (parts[1] == "ground" || parts[1] == "hung"), api.ErrForm)
	numbers, ok := words.Numbers(parts[2:])
	fault.Unless(ok, api.ErrForm)
	return api.Thing{Name: parts[0], Weight: numbers[0], Bears: numbers[1], Ground: parts[1] == "ground"}
}

func readTie(things []api.Thing, parts []string) api.Tie {
	fault.Unless(len(parts) == 3, api.ErrForm)
	most, ok := words.Number(parts[2])
	fault.Unless(ok, api.ErrForm)
	from, to := findThing(things, parts[0]), findThing(things, parts[1])
	fault.Unless(from >= 0 && to >= 0, api.ErrNone)
	return api.Tie{From: from, To: to, Most: most}
}
