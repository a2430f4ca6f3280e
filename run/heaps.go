package run

import (
	"iter"
	"slices"

	"thatch/api"
	"thatch/plane"
)

// placed is a bundle in a course with the line v.
type placed struct {
	v int
	api.Bundle
}

// bundlesOf returns all bundles of a coat, by their numbers.
func bundlesOf(c api.Coat) []placed {
	var list []placed
	for _, k := range c.Courses {
		for _, b := range k.Bundles {
			list = append(list, placed{k.V, b})
		}
	}
	return list
}

// count returns how many bundles a coat has.
func count(c api.Coat) int { return len(bundlesOf(c)) }

// heap is the bundles that lie over a point: of each number, whether that one does.
type heap [api.MaxBundles]bool

// downward yields the bundles of a heap, from the uppermost one on.
func (h heap) downward() iter.Seq[int] {
	return func(yield func(int) bool) {
		for number, there := range slices.Backward(h[:]) {
			if there && !yield(number) {
				return
			}
		}
	}
}

// below returns the bundles of a heap that lie below one.
func (h heap) below(number int) heap {
	clear(h[number:])
	return h
}

// heaps yields the heaps of the area, each of them once.
func (d drawing) heaps() iter.Seq[heap] {
	return func(yield func(heap) bool) {
		told := map[heap]bool{}
		for v := range plane.Levels(d) {
			for p := range d.row(v) {
				if !p.inside || told[p.over] {
					continue
				}
				told[p.over] = true
				if !yield(p.over) {
					return
				}
			}
		}
	}
}

// parts yields the parts of a bundle's butt, which is on the line v, each of them with its heap.
func (d drawing) parts(number, v int) iter.Seq[piece] {
	return func(yield func(piece) bool) {
		for p := range d.row(plane.Whole(v)) {
			if p.over[number] && !yield(piece{p.inside, p.over.below(number)}) {
				return
			}
		}
	}
}
