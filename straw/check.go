package straw

import (
	"slices"

	"thatch/api"
	"thatch/numbers"
	"thatch/words"
)

// wettest is the greatest moisture, in thousandths.
const wettest = 1000

func checkPlot(p api.Plot, ahead []api.Plot) api.Errno {
	switch {
	case !words.IsName(p.Name):
		return api.ErrName
	case slices.ContainsFunc(ahead, func(a api.Plot) bool { return a.Name == p.Name }):
		return api.ErrTwice
	case !isCrop(p.Crop) || !numbers.IsFrom(p.Size, 1, api.MaxField) || !numbers.IsSpan(p.Yield, 0, api.MaxYield):
		return api.ErrArg
	case !numbers.IsFrom(p.Rest, 1, api.MaxYear) || !numbers.IsSpan(p.Wet, 0, wettest) || !numbers.IsFrom(p.Cost, 0, api.MaxMown):
		return api.ErrArg
	}
	return api.OK
}

// mayBe reports whether a store may be of a farm that may be.
func mayBe(f api.Farm, s api.Store) bool {
	return areYears(f, s) && areHeaps(f, s.Heaps) && areParts(f, s.Used) && areParts(f, s.Waste) && isBalanced(f, s)
}

func areYears(f api.Farm, s api.Store) bool {
	if !numbers.IsFrom(s.Year, 0, api.MaxYear) || len(s.Last) != len(f.Plots) {
		return false
	}
	for _, year := range s.Last {
		if !numbers.IsFrom(year, -1, s.Year) {
			return false
		}
	}
	return true
}

func areHeaps(f api.Farm, heaps []api.Heap) bool {
	if len(heaps) > api.MaxHeaps {
		return false
	}
	for i, h := range heaps {
		if findHeap(heaps[:i], h.Name) >= 0 || !isHeap(f, h) {
			return false
		}
	}
	return true
}

func isHeap(f api.Farm, h api.Heap) bool {
	if !words.IsName(h.Name) || !isCrop(h.Crop) || !numbers.IsFrom(h.Stage, api.HpCut, api.HpBound) || !numbers.IsSpan(h.Wet, 0, wettest) {
		return false
	}
	if len(h.Parts) == 0 || !areParts(f, h.Parts) {
		return false
	}
	if slices.ContainsFunc(h.Parts, func(p api.Portion) bool { return f.Plots[p.Plot].Crop != h.Crop }) {
		return false
	}
	if h.Stage != api.HpBound {
		return h.Per == 0
	}
	return numbers.IsFrom(h.Per, 1, api.MaxPer) && loadsOf(h.Parts)%h.Per == 0
}

// areParts reports whether parts are of fields of the farm, and in order.
func areParts(f api.Farm, parts []api.Portion) bool {
	for i, p := range parts {
		if !numbers.IsFrom(p.Plot, 0, len(f.Plots)-1) || !numbers.IsFrom(p.Loads, 1, api.MaxLoads) {
			return false
		}
		if i > 0 && parts[i-1].Plot == p.Plot {
			return false
		}
	}
	return true
}

// isBalanced reports whether what each field of the farm gave is all there, and not too much together.
func isBalanced(f api.Farm, s api.Store) bool {
	if len(s.Given) != len(f.Plots) {
		return false
	}
	all := 0
	for _, c := range ledgerOf(s) {
		there := c.Used + c.Left + c.Wasted
		if c.Given != there {
			return false
		}
		all += there
	}
	return all <= api.MaxLoads
}

// ledgerOf returns a count for each element of Given, which all parts are of.
func ledgerOf(s api.Store) []api.Count {
	list := make([]api.Count, len(s.Given))
	for i, loads := range s.Given {
		list[i].Given = loads
	}
	for _, p := range s.Used {
		list[p.Plot].Used += p.Loads
	}
	for _, h := range s.Heaps {
		for _, p := range h.Parts {
			list[p.Plot].Left += p.Loads
		}
	}
	for _, p := range s.Waste {
		list[p.Plot].Wasted += p.Loads
	}
	return list
}

func findHeap(heaps []api.Heap, name string) int {
	return slices.IndexFunc(heaps, func(h api.Heap) bool { return h.Name == name })
}

func isCrop(c api.Crop) bool { return numbers.IsFrom(c, api.CrReed, api.CrHeather) }
