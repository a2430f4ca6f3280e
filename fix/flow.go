package fix

import (
	"iter"

	"thatch/api"
)

// The sides of a thing: loads come to the upper one, and leave it from the lower one.
const (
	upper = iota
	lower
)

// place is a side of a thing, or the sky, from where all weights come, or the earth, where all loads are held.
type place struct{ thing, side int }

var (
	sky   = place{thing: -1}
	earth = place{thing: -2}
)

// way is where loads can be pushed: along a tie, onto a thing, or through it. It has the number of its tie, as two of them may have the same ends; the others have noTie.
type way struct {
	from, to place
	tie      int
}

const noTie = -1

func (w way) back() way { return way{w.to, w.from, w.tie} }

func along(t api.Tie, number int) way {
	return way{place{t.From, lower}, place{t.To, upper}, number}
}

func onto(thing int) way { return way{sky, place{thing, upper}, noTie} }

// through leads to the ties of a thing, or into the earth if the thing stands by itself.
func through(x api.Thing, number int) way {
	if x.Ground {
		return way{place{number, upper}, earth, noTie}
	}
	return way{place{number, upper}, place{number, lower}, noTie}
}

// tiesAt yields the numbers of the ties at a side of a thing: at the upper one those to it, at the lower one those from it.
func tiesAt(ties []api.Tie, p place) iter.Seq[int] {
	return func(yield func(int) bool) {
		for i, t := range ties {
			w := along(t, i)
			if (w.from == p || w.to == p) && !yield(i) {
				return
			}
		}
	}
}

// flow is the loads that are pushed through a net. It has what is left of each way; what was pushed on a way is left of the way back.
type flow struct {
	ways map[place][]way // by where they begin
	left map[way]int
}

// newFlow takes all weights, and all that things and ties bear, so many times as great as they are.
func newFlow(n api.Net, weights, bears int) flow {
	f := flow{map[place][]way{}, map[way]int{}}
	for i, x := range n.Things {
		f.open(onto(i), x.Weight*weights)
		f.open(through(x, i), x.Bears*bears)
	}
	for i, t := range n.Ties {
		f.open(along(t, i), t.Most*bears)
	}
	return f
}

func (f flow) open(w way, most int) {
	f.ways[w.from] = append(f.ways[w.from], w)
	f.ways[w.to] = append(f.ways[w.to], w.back())
	f.left[w] = most
}

// search sends ways of which something is left, each to a place to which none ahead of it leads, from the sky on. It ends with one to the earth, if there is any.
func (f flow) search(found chan<- way) {
	defer close(found)
	reached := map[place]bool{sky: true}
	for next := []place{sky}; len(next) > 0; next = next[1:] {
		for _, w := range f.ways[next[0]] {
			if f.left[w] == 0 || reached[w.to] {
				continue
			}
			found <- w
			if w.to == earth {
				return
			}
			reached[w.to] = true
			next = append(next, w.to)
		}
	}
}

// push pushes as much as it can to the earth. It returns the places to which more would come, each with the way there: none if all weights are held.
func (f flow) push() map[place]way {
	for {
		found := make(chan way)
		go f.search(found)
		came := map[place]way{}
		for w := range found {
			came[w.to] = w
		}
		if _, ok := came[earth]; !ok {
			return came
		}
		f.pushOn(came)
	}
}

// pushOn pushes as much as it can on the ways by which the search came to the earth.
func (f flow) pushOn(came map[place]way) {
	var path []way
	for p := earth; p != sky; p = came[p].from {
		path = append(path, came[p])
	}
	load := f.left[path[0]]
	for _, w := range path {
		load = min(load, f.left[w])
	}
	for _, w := range path {
		f.left[w] -= load
		f.left[w.back()] += load
	}
}

// shares returns what was pushed along each tie.
func (f flow) shares(ties []api.Tie) []int {
	shares := make([]int, len(ties))
	for i, t := range ties {
		shares[i] = f.left[along(t, i).back()]
	}
	return shares
}
