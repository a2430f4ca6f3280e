package fire_test

import (
	"math/rand"
	"slices"
	"strconv"
	"testing"

	"thatch/api"
	"thatch/fire"
)

// Grounds for the tests, and what can be done with them.

func path(from, to, low, high int) api.Path {
	return api.Path{From: from, To: to, Time: api.Span{Low: low, High: high}}
}

func strip(name string, site, at, work int, paths ...int) api.Strip {
	return api.Strip{Name: name, Site: site, At: at, Work: work, Paths: paths}
}

func spark(site, time int) api.Spark { return api.Spark{Site: site, Time: time} }

func list(numbers ...int) []int { return numbers }

// names returns so many names, from a on.
func names(count int) []string {
	var list []string
	for i := range count {
		list = append(list, string(rune('a'+i)))
	}
	return list
}

// example is the ground of the document's examples.
func example() api.Ground {
	return api.Ground{
		Sites:  names(3),
		Paths:  []api.Path{path(0, 1, 10, 20), path(1, 2, 5, 5), path(0, 2, 40, 50)},
		Strips: []api.Strip{strip("gap", 1, 3, 4, 1), strip("lane", 2, 8, 10, 2)},
		Sparks: []api.Spark{spark(0, 0)},
	}
}

const exampleText = "ground 0\nsite a\nsite b\nsite c\npath a b 10 20\npath b c 5 5\npath a c 40 50\nstrip gap b 3 4 1\nstrip lane c 8 10 2\nspark a 0\n"

// changed is the ground of the examples with something else in it.
func changed(do func(g *api.Ground)) api.Ground {
	g := example()
	do(&g)
	return g
}

// burning is a ground with so many sites and paths, on which the first site burns.
func burning(sites int, paths ...api.Path) api.Ground {
	return api.Ground{Sites: names(sites), Paths: paths, Sparks: []api.Spark{spark(0, 0)}}
}

// full is a ground with as much of all as there may be.
func full() api.Ground {
	g := api.Ground{Base: api.MaxMile}
	for i := range api.MaxSites {
		g.Sites = append(g.Sites, "a-name-of-16-x-"+string(rune('a'+i)))
		g.Sparks = append(g.Sparks, spark(i, api.MaxClock))
	}
	var all []int
	for i := range api.MaxPaths {
		g.Paths = append(g.Paths, path(i%24, (i+1+i/24)%24, api.MaxBurn, api.MaxBurn))
		all = append(all, i)
	}
	for i := range api.MaxStrips {
		g.Strips = append(g.Strips, strip("strip-no-"+strconv.Itoa(i), i, api.MaxMile, api.MaxBurn, slices.Clone(all)...))
	}
	return g
}

func copyGround(g api.Ground) api.Ground {
	g.Sites, g.Paths, g.Strips, g.Sparks = slices.Clone(g.Sites), slices.Clone(g.Paths), slices.Clone(g.Strips), slices.Clone(g.Sparks)
	for i, s := range g.Strips {
		g.Strips[i].Paths = slices.Clone(s.Paths)
	}
	return g
}

func sameStrip(a, b api.Strip) bool {
	return a.Name == b.Name && a.Site == b.Site && a.At == b.At && a.Work == b.Work && slices.Equal(a.Paths, b.Paths)
}

func sameGround(a, b api.Ground) bool {
	return slices.Equal(a.Sites, b.Sites) && slices.Equal(a.Paths, b.Paths) && slices.EqualFunc(a.Strips, b.Strips, sameStrip) &&
		slices.Equal(a.Sparks, b.Sparks) && a.Base == b.Base
}

// between is a random number from low to high.
func between(rng *rand.Rand, low, high int) int { return low + rng.Intn(high-low+1) }

// size is how much a random ground has at most.
type size struct{ sites, paths, strips, sparks, burn, clock, mile int }

var (
	small = size{6, 12, 3, 3, 6, 8, 5}
	some  = size{9, 25, 5, 3, 30, 30, 20}
	large = size{api.MaxSites, api.MaxPaths, api.MaxStrips, 4, api.MaxBurn, api.MaxClock, api.MaxMile}
)

func randomPath(rng *rand.Rand, s size, sites int) api.Path {
	from, to := rng.Intn(sites), rng.Intn(sites-1)
	if to >= from {
		to++
	}
	low := between(rng, 1, s.burn)
	if rng.Intn(3) == 0 {
		return path(from, to, low, low)
	}
	return path(from, to, low, between(rng, low, s.burn))
}

// randomGround has up to so much. Its sites may be none; then it has nothing else.
func randomGround(rng *rand.Rand, s size) api.Ground {
	g := api.Ground{Base: rng.Intn(s.mile + 1)}
	for i := range min(rng.Intn(2*s.sites), s.sites) {
		g.Sites = append(g.Sites, "s"+strconv.Itoa(i))
	}
	sites := len(g.Sites)
	if sites == 0 {
		return g
	}
	for range between(rng, s.paths/2, s.paths) {
		if sites > 1 {
			g.Paths = append(g.Paths, randomPath(rng, s, sites))
		}
	}
	for i := range rng.Intn(s.strips + 1) {
		x := strip("t"+strconv.Itoa(i), rng.Intn(sites), rng.Intn(s.mile+1), rng.Intn(s.burn/2+1))
		for k := range g.Paths {
			if rng.Intn(3) == 0 {
				x.Paths = append(x.Paths, k)
			}
		}
		g.Strips = append(g.Strips, x)
	}
	for range rng.Intn(s.sparks + 1) {
		g.Sparks = append(g.Sparks, spark(rng.Intn(sites), rng.Intn(s.clock+1)))
	}
	return g
}

func randomPlan(rng *rand.Rand, g api.Ground) []int {
	return rng.Perm(len(g.Strips))[:rng.Intn(len(g.Strips)+1)]
}

// randomSites is some sites of a ground, and some of them more than once.
func randomSites(rng *rand.Rand, g api.Ground) []int {
	var list []int
	for range rng.Intn(4) {
		if len(g.Sites) > 0 {
			list = append(list, rng.Intn(len(g.Sites)))
		}
	}
	return list
}

func askTimes(t *testing.T, g api.Ground, plan []int) (earliest, latest []int) {
	t.Helper()
	earliest, latest, e := fire.Times(g, plan)
	if e != api.OK {
		t.Fatal(g, plan, e)
	}
	return earliest, latest
}

func askAllowed(t *testing.T, g api.Ground, plan []int) int {
	t.Helper()
	at, e := fire.Allowed(g, plan)
	if e != api.OK {
		t.Fatal(g, plan, e)
	}
	return at
}

func askWay(t *testing.T, g api.Ground, plan []int, site int) ([]int, bool) {
	t.Helper()
	paths, found, e := fire.Way(g, plan, site)
	if e != api.OK {
		t.Fatal(g, plan, site, e)
	}
	return paths, found
}

func askProves(t *testing.T, g api.Ground, plan, earliest []int) bool {
	t.Helper()
	yes, e := fire.Proves(g, plan, earliest)
	if e != api.OK {
		t.Fatal(g, plan, earliest, e)
	}
	return yes
}

func askSave(t *testing.T, g api.Ground, sites []int, time int) ([]int, bool) {
	t.Helper()
	plan, found, e := fire.Save(g, sites, time)
	if e != api.OK {
		t.Fatal(g, sites, time, e)
	}
	return plan, found
}
