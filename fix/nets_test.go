package fix_test

import (
	"math/rand"
	"slices"
	"strconv"

	"thatch/api"
)

// Nets for the tests, and what can be done with them.

func hung(name string, weight, bears int) api.Thing {
	return api.Thing{Name: name, Weight: weight, Bears: bears}
}

func ground(name string, weight, bears int) api.Thing {
	return api.Thing{Name: name, Weight: weight, Bears: bears, Ground: true}
}

func tie(from, to, most int) api.Tie { return api.Tie{From: from, To: to, Most: most} }

func things(list ...api.Thing) []api.Thing { return list }

func net(things []api.Thing, ties ...api.Tie) api.Net { return api.Net{Things: things, Ties: ties} }

func ratio(num, den int) api.Ratio { return api.Ratio{Num: num, Den: den} }

// example is the net of the document's examples.
func example() api.Net {
	return net(
		things(hung("straw", 10, 20), hung("sway", 2, 30), ground("left", 0, 8), ground("right", 0, 9)),
		tie(0, 1, 15), tie(1, 2, 10), tie(1, 3, 10),
	)
}

const exampleText = "thing straw hung 10 20\nthing sway hung 2 30\nthing left ground 0 8\nthing right ground 0 9\ntie straw sway 15\ntie sway left 10\ntie sway right 10\n"

// changed is the net of the examples with something else in it.
func changed(do func(n *api.Net)) api.Net {
	n := example()
	do(&n)
	return n
}

// weakLeft is the net of the examples, if left bears 2.
func weakLeft() api.Net { return changed(func(n *api.Net) { n.Things[2].Bears = 2 }) }

// row has things that hang on nothing.
func row(count int) []api.Thing {
	var list []api.Thing
	for i := range count {
		list = append(list, hung("t"+strconv.Itoa(i), 0, 1))
	}
	return list
}

// chain hangs each thing of a row on the next one.
func chain(count int) api.Net {
	n := net(row(count))
	for i := range count - 1 {
		n.Ties = append(n.Ties, tie(i, i+1, 1))
	}
	return n
}

func copyNet(n api.Net) api.Net {
	return api.Net{Things: slices.Clone(n.Things), Ties: slices.Clone(n.Ties)}
}

func sameNet(a, b api.Net) bool {
	return slices.Equal(a.Things, b.Things) && slices.Equal(a.Ties, b.Ties)
}

// between is a random number from low to high.
func between(rng *rand.Rand, low, high int) int { return low + rng.Intn(high-low+1) }

// size is how great a random net is at most.
type size struct{ things, ties, weight, bears int }

var (
	small = size{4, 5, 3, 5}
	some  = size{6, 9, 20, 40}
	large = size{api.MaxHung, api.MaxTies, 100, 400}
	heavy = size{api.MaxHung, api.MaxTies, api.MaxWeight, api.MaxBears}
)

// randomTies hangs most things, and some of them more than once, on things behind them in an order, so that there is no circle.
func randomTies(rng *rand.Rand, n api.Net, order []int, many, most int) []api.Tie {
	var list []api.Tie
	for round := range 4 {
		for i, from := range order[:len(order)-1] {
			if n.Things[from].Ground || rng.Intn(8) < 2*round {
				continue
			}
			to := order[between(rng, i+1, len(order)-1)]
			list = append(list, tie(from, to, between(rng, 0, most)))
		}
	}
	list = list[:min(many, len(list))]
	rng.Shuffle(len(list), func(i, k int) { list[i], list[k] = list[k], list[i] })
	return list
}

// randomOffered is a random net that may be, and at most so many offers that may be added to it.
func randomOffered(rng *rand.Rand, s size, offers int) (api.Net, []api.Tie) {
	n := net(nil)
	order := rng.Perm(between(rng, 1, s.things))
	heaviest := between(rng, 0, s.weight)
	for i := range order {
		x := hung("t"+strconv.Itoa(i), between(rng, 0, heaviest), between(rng, 0, s.bears))
		if rng.Intn(3) == 0 {
			x.Weight = 0
		}
		n.Things = append(n.Things, x)
	}
	// The last ones of the order are those on which the others may hang.
	for i, k := range order {
		n.Things[k].Ground = i*3 >= len(order)*2 || rng.Intn(8) == 0
	}
	list := randomTies(rng, n, order, s.ties+offers, s.bears)
	own := between(rng, max(0, len(list)-offers), min(s.ties, len(list)))
	n.Ties = slices.Clone(list[:own])
	return n, slices.Clone(list[own:])
}

func randomNet(rng *rand.Rand, s size) api.Net {
	n, _ := randomOffered(rng, s, 0)
	return n
}

func hasWeight(n api.Net) bool {
	return slices.ContainsFunc(n.Things, func(x api.Thing) bool { return x.Weight > 0 })
}

// isLess compares two quotients, none of which is below 0.
func isLess(a, b api.Ratio) bool { return a.Num*b.Den < b.Num*a.Den }
