package straw

import (
	"slices"

	"thatch/api"
	"thatch/fault"
	"thatch/numbers"
	"thatch/words"
)

// Limits that only chores have.
const (
	mostDays  = 365 // of drying
	mostRains = 100
)

// By how much a day dries a heap, and a rain wets it: at least and at most.
const (
	leastDried, mostDried = 10, 20
	leastWet, mostWet     = 5, 15
)

// hand does chores on a farm. Its store is a copy, which it may change.
type hand struct {
	farm  api.Farm
	store api.Store
}

func chores() map[api.ChoreKind]func(*hand, api.Chore) {
	return map[api.ChoreKind]func(*hand, api.Chore){
		api.ChYear: (*hand).year,
		api.ChCut:  (*hand).cut,
		api.ChDry:  (*hand).dry,
		api.ChComb: (*hand).comb,
		api.ChJoin: (*hand).join,
		api.ChBind: (*hand).bind,
		api.ChUse:  (*hand).use,
		api.ChRot:  (*hand).rot,
	}
}

// named returns a chore without the fields that its kind does not name.
func named(a api.Chore) api.Chore {
	only := api.Chore{Kind: a.Kind}
	switch a.Kind {
	case api.ChCut:
		only.Plot, only.Loads, only.Name = a.Plot, a.Loads, a.Name
	case api.ChDry:
		only.Name, only.Days, only.Rain = a.Name, a.Days, a.Rain
	case api.ChComb, api.ChUse:
		only.Name, only.Loads = a.Name, a.Loads
	case api.ChJoin:
		only.Name, only.Other = a.Name, a.Other
	case api.ChBind:
		only.Name, only.Other, only.Per = a.Name, a.Other, a.Per
	case api.ChRot:
		only.Name = a.Name
	}
	return only
}

func (h *hand) do(a api.Chore) {
	chore, known := chores()[a.Kind]
	fault.Unless(known && a == named(a), api.ErrArg)
	chore(h, a)
}

func (h *hand) year(api.Chore) {
	fault.Unless(h.store.Year < api.MaxYear, api.ErrLimit)
	h.store.Year++
}

func (h *hand) cut(a api.Chore) {
	s := &h.store
	fault.Unless(numbers.IsFrom(a.Plot, 0, len(h.farm.Plots)-1), api.ErrNone)
	h.requireNew(a.Name)
	p := h.farm.Plots[a.Plot]
	fault.Unless(s.Last[a.Plot] < 0 || s.Last[a.Plot] <= s.Year-p.Rest, api.ErrState)
	fault.Unless(a.Loads != 0 && numbers.IsFrom(a.Loads, p.Size*p.Yield.Low, p.Size*p.Yield.High), api.ErrArg)
	fault.Unless(len(s.Heaps) < api.MaxHeaps && allLoads(*s)+a.Loads <= api.MaxLoads, api.ErrLimit)
	s.Last[a.Plot] = s.Year
	s.Given[a.Plot] += a.Loads
	parts := []api.Portion{{Plot: a.Plot, Loads: a.Loads}}
	s.Heaps = append(s.Heaps, api.Heap{Name: a.Name, Crop: p.Crop, Stage: api.HpCut, Parts: parts, Wet: p.Wet})
}

func (h *hand) dry(a api.Chore) {
	heap := &h.store.Heaps[h.find(a.Name)]
	fault.Unless(heap.Stage != api.HpBound, api.ErrState)
	fault.Unless(numbers.IsFrom(a.Days, 0, mostDays) && numbers.IsSpan(a.Rain, 0, mostRains), api.ErrArg)
	low := heap.Wet.Low - mostDried*a.Days + leastWet*a.Rain.Low
	high := heap.Wet.High - leastDried*a.Days + mostWet*a.Rain.High
	heap.Wet = api.Span{Low: moisture(low), High: moisture(high)}
}

func (h *hand) comb(a api.Chore) {
	i := h.find(a.Name)
	heap := &h.store.Heaps[i]
	fault.Unless(heap.Stage == api.HpCut && h.isDry(*heap), api.ErrState)
	fault.Unless(numbers.IsFrom(a.Loads, 0, loadsOf(heap.Parts)-1), api.ErrArg)
	heap.Stage = api.HpCombed
	h.store.Waste = h.move(i, a.Loads, h.store.Waste)
}

func (h *hand) join(a api.Chore) {
	i, k := h.find(a.Name), h.find(a.Other)
	fault.Unless(i != k, api.ErrClash)
	heap, other := &h.store.Heaps[i], h.store.Heaps[k]
	fault.Unless(heap.Crop == other.Crop && heap.Stage == other.Stage && heap.Stage != api.HpBound, api.ErrState)
	heap.Parts = put(heap.Parts, slices.Values(other.Parts))
	heap.Wet = api.Span{Low: min(heap.Wet.Low, other.Wet.Low), High: max(heap.Wet.High, other.Wet.High)}
	h.remove(k)
}

func (h *hand) bind(a api.Chore) {
	i := h.find(a.Name)
	h.requireNew(a.Other)
	heap := h.store.Heaps[i]
	fault.Unless(heap.Stage == api.HpCombed && h.isDry(heap), api.ErrState)
	fault.Unless(numbers.IsFrom(a.Per, 1, api.MaxPer), api.ErrArg)
	loads := loadsOf(heap.Parts)
	over := loads % a.Per
	fault.Unless(loads >= a.Per, api.ErrScope)
	// A heap that is bound without a rest makes room for the new one.
	fault.Unless(over == 0 || len(h.store.Heaps) < api.MaxHeaps, api.ErrLimit)
	bound := api.Heap{Name: a.Other, Crop: heap.Crop, Stage: api.HpBound, Per: a.Per, Wet: heap.Wet}
	bound.Parts = h.move(i, loads-over, nil)
	h.store.Heaps = append(h.store.Heaps, bound)
}

func (h *hand) use(a api.Chore) {
	i := h.find(a.Name)
	heap := h.store.Heaps[i]
	fault.Unless(heap.Stage == api.HpBound, api.ErrState)
	fault.Unless(numbers.IsFrom(a.Loads, 1, loadsOf(heap.Parts)/heap.Per), api.ErrArg)
	h.store.Used = h.move(i, a.Loads*heap.Per, h.store.Used)
}

func (h *hand) rot(a api.Chore) {
	i := h.find(a.Name)
	heap := h.store.Heaps[i]
	fault.Unless(!h.isDry(heap), api.ErrState)
	h.store.Waste = h.move(i, loadsOf(heap.Parts), h.store.Waste)
}

// find returns the place of the heap with a name.
func (h *hand) find(name string) int {
	i := findHeap(h.store.Heaps, name)
	fault.Unless(i >= 0, api.ErrNone)
	return i
}

// requireNew requires that a new heap can have this name.
func (h *hand) requireNew(name string) {
	fault.Unless(words.IsName(name), api.ErrName)
	fault.Unless(findHeap(h.store.Heaps, name) < 0, api.ErrTwice)
}

func (h *hand) isDry(heap api.Heap) bool { return heap.Wet.High <= h.farm.Dry }

// move takes the first loads of a heap and returns the list with them behind it. A heap without loads is gone.
func (h *hand) move(i, loads int, list []api.Portion) []api.Portion {
	heap := &h.store.Heaps[i]
	list = put(list, taken(heap.Parts, 0, loads))
	heap.Parts = put(nil, taken(heap.Parts, loads, loadsOf(heap.Parts)-loads))
	if len(heap.Parts) == 0 {
		h.remove(i)
	}
	return list
}

func (h *hand) remove(i int) { h.store.Heaps = slices.Delete(h.store.Heaps, i, i+1) }

// moisture is what a sum of moistures comes to, as nothing is drier than dry or wetter than wet.
func moisture(sum int) int { return max(0, min(sum, wettest)) }
