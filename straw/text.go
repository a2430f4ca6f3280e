package straw

import (
	"slices"
	"strings"

	"thatch/api"
	"thatch/words"
)

// cropWords are the words of the crops, from reed on.
func cropWords() []string { return []string{"reed", "straw", "heather"} }

func write(f api.Farm) string {
	var text strings.Builder
	words.WriteLine(&text, "farm", f.Dry)
	for _, p := range f.Plots {
		words.WriteLine(&text, "field "+p.Name+" "+cropWords()[p.Crop-api.CrReed], p.Size, p.Yield.Low, p.Yield.High, p.Rest, p.Wet.Low, p.Wet.High, p.Cost)
	}
	return text.String()
}

// read returns the farm of a text, which need not be one that may be, or the line that is wrong.
func read(text string) (f api.Farm, line int, e api.Errno) {
	if text == "" {
		return api.Farm{}, 0, api.ErrForm
	}
	for number, s := range words.Lines(text) {
		parts := strings.Split(s, " ")
		if number == 1 {
			dry, ok := readDry(parts)
			if !ok {
				return api.Farm{}, number, api.ErrForm
			}
			f.Dry = dry
			continue
		}
		p, ok := readPlot(parts)
		if !ok {
			return api.Farm{}, number, api.ErrForm
		}
		f.Plots = append(f.Plots, p)
	}
	return f, 0, api.OK
}

func readDry(parts []string) (int, bool) {
	if len(parts) != 2 || parts[0] != "farm" {
		return 0, false
	}
	return words.Number(parts[1])
}

func readPlot(parts []string) (api.Plot, bool) {
	if len(parts) != 10 || parts[0] != "field" || parts[1] == "" {
		return api.Plot{}, false
	}
	crop := slices.Index(cropWords(), parts[2])
	n, ok := words.Numbers(parts[3:])
	if crop < 0 || !ok {
		return api.Plot{}, false
	}
	return api.Plot{
		Name:  parts[1],
		Crop:  api.CrReed + api.Crop(crop),
		Size:  n[0],
		Yield: api.Span{Low: n[1], High: n[2]},
		Rest:  n[3],
		Wet:   api.Span{Low: n[4], High: n[5]},
		Cost:  n[6],
	}, true
}
