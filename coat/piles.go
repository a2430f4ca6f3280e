package coat

import (
	"cmp"
	"maps"
	"slices"

	"thatch/api"
)

func wornBundles(list []api.Bundle, take int) []api.Bundle {
	var worn []api.Bundle
	for _, b := range list {
		if b.Thick > take {
			b.Thick -= take
			worn = append(worn, b)
		}
	}
	return worn
}

func pilesOf(c api.Coat) []api.Pile {
	counts := map[api.Make]int{}
	for _, k := range c.Courses {
		for _, b := range k.Bundles {
			counts[makeOf(b)]++
		}
	}
	var piles []api.Pile
	for _, m := range slices.SortedFunc(maps.Keys(counts), compareMakes) {
		piles = append(piles, api.Pile{Make: m, Count: counts[m]})
	}
	return piles
}

func compareMakes(a, b api.Make) int {
	return cmp.Or(
		cmp.Compare(a.Width, b.Width),
		cmp.Compare(a.Length, b.Length),
		cmp.Compare(a.Taper, b.Taper),
		cmp.Compare(a.Thick, b.Thick),
	)
}

func makeOf(b api.Bundle) api.Make {
	return api.Make{Width: b.Width, Length: b.Length, Taper: b.Taper, Thick: b.Thick}
}

// bundleOf returns a bundle of a make that does not lean.
func bundleOf(m api.Make, u int) api.Bundle {
	return api.Bundle{U: u, Width: m.Width, Length: m.Length, Taper: m.Taper, Thick: m.Thick}
}
