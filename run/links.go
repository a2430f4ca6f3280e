package run

import (
	"cmp"
	"maps"
	"slices"

	"thatch/api"
)

// place is where water goes: onto a bundle, to a batten, or off the roof.
type place interface {
	// number is the place as an api.Link has it.
	number() int
}

type (
	bundle int
	batten struct{}
	off    struct{}
)

func (b bundle) number() int { return int(b) }

func (batten) number() int { return api.RnBatten }

func (off) number() int { return api.RnOff }

func placeOf(number int) place {
	switch number {
	case api.RnBatten:
		return batten{}
	case api.RnOff:
		return off{}
	default:
		return bundle(number)
	}
}

// ends is where a link begins, and where it leads to.
type ends struct{ from, to int }

// links is the least wear of all links with the same ends.
type links map[ends]int

func (l links) add(from int, to place, wear int) {
	e := ends{from, to.number()}
	if least, ok := l[e]; !ok || wear < least {
		l[e] = wear
	}
}

// pour adds the links of water that falls onto a heap: to the uppermost bundle, and through each one to the next one below it.
func (l links) pour(from int, h heap, bundles []placed) {
	wear := 0
	for number := range h.downward() {
		l.add(from, bundle(number), wear)
		from, wear = number, bundles[number].Thick
	}
	l.add(from, batten{}, wear)
}

// list returns the links in ascending order of their ends.
func (l links) list() []api.Link {
	var list []api.Link
	for _, e := range slices.SortedFunc(maps.Keys(l), compareEnds) {
		list = append(list, api.Link{From: e.from, To: e.to, Wear: l[e]})
	}
	return list
}

func compareEnds(a, b ends) int {
	return cmp.Or(cmp.Compare(a.from, b.from), cmp.Compare(a.to, b.to))
}

func linksOf(a api.Area, c api.Coat) []api.Link {
	bundles := bundlesOf(c)
	d := draw(a, bundles)
	l := links{}
	for h := range d.heaps() {
		l.pour(api.RnRain, h, bundles)
	}
	for number, b := range bundles {
		for p := range d.parts(number, b.v) {
			if p.inside {
				l.pour(number, p.over, bundles)
			} else {
				l.add(number, off{}, 0)
			}
		}
	}
	return l.list()
}
