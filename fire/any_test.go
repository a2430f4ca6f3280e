package fire_test

import (
	"math"
	"math/rand"
	"reflect"
	"slices"
	"strings"
	"sync"
	"testing"

	"thatch/api"
	"thatch/fire"
)

// P0.7, and the rules R1 to R11, for all functions of the package.

// asked is what all functions are given.
type asked struct {
	ground           api.Ground
	plan, earliest   []int
	sites            []int
	site, time       int
	roof             api.Roof
	over             api.Span
	down, up, across int
}

func copyAsked(q asked) asked {
	q.ground = copyGround(q.ground)
	q.plan, q.earliest, q.sites = slices.Clone(q.plan), slices.Clone(q.earliest), slices.Clone(q.sites)
	q.roof.Faces, q.roof.Opens = slices.Clone(q.roof.Faces), slices.Clone(q.roof.Opens)
	for i := range q.roof.Faces {
		q.roof.Faces[i].Corners = slices.Clone(q.roof.Faces[i].Corners)
	}
	return q
}

// houseAnswer is where the answer of House is, which is given no ground.
const houseAnswer = 8

// answers calls every function but Parse, and returns the results of each, with its error behind them.
func answers(q asked) [][]any {
	cleared, clearedError := fire.Cleared(q.ground, q.plan)
	earliest, latest, timesError := fire.Times(q.ground, q.plan)
	at, allowedError := fire.Allowed(q.ground, q.plan)
	may, surely, burningError := fire.Burning(q.ground, q.plan, q.time)
	way, found, wayError := fire.Way(q.ground, q.plan, q.site)
	yes, provesError := fire.Proves(q.ground, q.plan, q.earliest)
	plan, kept, saveError := fire.Save(q.ground, q.sites, q.time)
	g, houseError := fire.House(q.roof, q.over, q.down, q.up, q.across)
	text, printError := fire.Print(q.ground)
	return [][]any{
		{fire.Check(q.ground)},
		{cleared, clearedError},
		{earliest, latest, timesError},
		{at, allowedError},
		{may, surely, burningError},
		{way, found, wayError},
		{yes, provesError},
		{plan, kept, saveError},
		{g, houseError},
		{text, printError},
	}
}

func anyInt(rng *rand.Rand) int {
	strange := []int{math.MinInt, math.MinInt + 1, -1 << 62, -1 << 31, -2, -1, 0, 0, 1, 2, 3, 5, 6, 23, 24, 25, 63, 64, 65, 100, 101, 10000, 10001, 100000, 100001, 1000000, 1000001, 1 << 32, 1<<62 + 1, math.MaxInt}
	return strange[rng.Intn(len(strange))]
}

func anyName(rng *rand.Rand) string {
	names := []string{"", "a", "s0", "s1", "t0", "-", "A", "\xff", "ö", "a b", "a\n", strings.Repeat("a", 16), strings.Repeat("a", 17), strings.Repeat("a", 1<<16)}
	return names[rng.Intn(len(names))]
}

// numbersOf returns where the numbers of a ground are.
func numbersOf(g *api.Ground) []*int {
	list := []*int{&g.Base}
	for i := range g.Paths {
		p := &g.Paths[i]
		list = append(list, &p.From, &p.To, &p.Time.Low, &p.Time.High)
	}
	for i := range g.Strips {
		s := &g.Strips[i]
		list = append(list, &s.Site, &s.At, &s.Work)
		for k := range s.Paths {
			list = append(list, &s.Paths[k])
		}
	}
	for i := range g.Sparks {
		list = append(list, &g.Sparks[i].Site, &g.Sparks[i].Time)
	}
	return list
}

func spoil(rng *rand.Rand, g *api.Ground) {
	switch rng.Intn(10) {
	case 0:
		g.Sites = append(g.Sites, anyName(rng))
	case 1:
		g.Sites = append(g.Sites, make([]string, rng.Intn(25))...)
	case 2:
		g.Paths = append(g.Paths, path(anyInt(rng), anyInt(rng), anyInt(rng), anyInt(rng)))
	case 3:
		g.Paths = append(g.Paths, make([]api.Path, rng.Intn(80))...)
	case 4:
		g.Strips = append(g.Strips, strip(anyName(rng), anyInt(rng), anyInt(rng), anyInt(rng), anyInt(rng), anyInt(rng)))
	case 5:
		g.Strips = append(g.Strips, g.Strips...)
	case 6:
		g.Sparks = append(g.Sparks, make([]api.Spark, rng.Intn(30))...)
	default:
		list := numbersOf(g)
		*list[rng.Intn(len(list))] = anyInt(rng)
	}
}

// spoilAsked changes what is asked besides the ground.
func spoilAsked(rng *rand.Rand, q *asked) {
	switch rng.Intn(7) {
	case 0:
		q.plan = append(q.plan, anyInt(rng))
	case 1:
		q.plan = append(q.plan, q.plan...)
	case 2:
		q.sites = append(q.sites, anyInt(rng))
	case 3:
		q.earliest = append(q.earliest[:rng.Intn(len(q.earliest)+1)], anyInt(rng))
	case 4:
		if len(q.roof.Faces) > 0 {
			q.roof.Faces[0].Name = anyName(rng)
			q.roof.Faces[0].Corners[0].X = anyInt(rng)
		}
	default:
		list := []*int{&q.site, &q.time, &q.over.Low, &q.over.High, &q.down, &q.up, &q.across}
		*list[rng.Intn(len(list))] = anyInt(rng)
	}
}

func anyAsked(rng *rand.Rand) asked {
	g := randomGround(rng, []size{small, some, large}[rng.Intn(3)])
	if rng.Intn(3) == 0 {
		g = defended(rng)
	}
	q := asked{ground: g, plan: randomPlan(rng, g), sites: randomSites(rng, g), site: rng.Intn(len(g.Sites) + 1), time: rng.Intn(50)}
	earliest, _, _ := fire.Times(g, q.plan)
	q.earliest = misled(rng, earliest)
	q.roof, q.over = []api.Roof{house(), hipped(), pit(), comb(9, 9, 9, 6)}[rng.Intn(4)], api.Span{Low: 3, High: between(rng, 3, 9)}
	q.down, q.up, q.across = between(rng, 1, 9), between(rng, 1, 9), between(rng, 1, 9)
	if rng.Intn(3) == 0 {
		spoil(rng, &q.ground)
	}
	if rng.Intn(2) == 0 {
		spoilAsked(rng, &q)
	}
	return q
}

// isNothing reports whether a result is its zero value; an empty list is.
func isNothing(x any) bool {
	if g, ok := x.(api.Ground); ok {
		return sameGround(g, api.Ground{})
	}
	v := reflect.ValueOf(x)
	return v.IsZero() || v.Kind() == reflect.Slice && v.Len() == 0
}

// checkResults makes sure that nothing else comes with an error, nor with false, and that the error of the ground comes first.
func checkResults(t *testing.T, q asked, list [][]any) {
	t.Helper()
	first := list[0][0]
	for i, results := range list {
		last := len(results) - 1
		if first != api.OK && results[last] != first && i != houseAnswer {
			t.Fatal("function", i, "has not the error of the ground", q, results)
		}
		if results[last] == api.OK && !slices.Contains(results, any(false)) {
			continue
		}
		for _, x := range results[:last] {
			if !isNothing(x) {
				t.Fatal("with an error, or with false", i, q, results)
			}
		}
	}
}

func TestAny(t *testing.T) {
	rng := rand.New(rand.NewSource(165))
	seen := map[int]map[any]int{}
	for range 3000 {
		q := anyAsked(rng)
		before := copyAsked(q)
		list := answers(q)
		if again := answers(q); !reflect.DeepEqual(list, again) {
			t.Fatal("not the same again", q, list, again)
		}
		if !reflect.DeepEqual(q, before) {
			t.Fatal("changed", before, q)
		}
		checkResults(t, q, list)
		for i, results := range list {
			if seen[i] == nil {
				seen[i] = map[any]int{}
			}
			seen[i][results[len(results)-1]]++
		}
	}
	all := []api.Errno{api.OK, api.ErrLimit, api.ErrName, api.ErrTwice, api.ErrArg, api.ErrNone}
	for i := range seen {
		wanted := all
		if i == houseAnswer {
			wanted = []api.Errno{api.OK, api.ErrLimit, api.ErrName, api.ErrArg}
		}
		for _, e := range wanted {
			if seen[i][e] < 5 {
				t.Error("function", i, "has hardly the error", e, seen[i])
			}
		}
		if len(seen[i]) > len(all) && i != houseAnswer {
			t.Error("function", i, "has other errors", seen[i])
		}
	}
}

func TestManyOfAll(t *testing.T) {
	const many = 1 << 20
	rising := make([]int, many)
	for i := range rising {
		rising[i] = i
	}
	for _, c := range []struct {
		name string
		do   func(g *api.Ground)
		want api.Errno
	}{
		{"sites", func(g *api.Ground) { g.Sites = make([]string, many) }, api.ErrLimit},
		{"a long name", func(g *api.Ground) { g.Sites[1] = strings.Repeat("a", many) }, api.ErrName},
		{"paths", func(g *api.Ground) { g.Paths = make([]api.Path, many) }, api.ErrLimit},
		{"strips", func(g *api.Ground) { g.Strips = make([]api.Strip, many) }, api.ErrLimit},
		{"paths of a strip", func(g *api.Ground) { g.Strips[0].Paths = make([]int, many) }, api.ErrArg},
		{"rising paths of a strip", func(g *api.Ground) { g.Strips[0].Paths = rising }, api.ErrNone},
		{"sparks", func(g *api.Ground) { g.Sparks = make([]api.Spark, many) }, api.ErrLimit},
	} {
		g := changed(c.do)
		for i, results := range answers(asked{ground: g, plan: rising, earliest: rising, sites: rising}) {
			if e := results[len(results)-1]; e != c.want && i != houseAnswer {
				t.Error(c.name, i, e, c.want)
			}
		}
	}
	list := answers(asked{ground: example(), plan: rising, earliest: rising, sites: rising, roof: api.Roof{Faces: make([]api.Face, many)}})
	for i, want := range []api.Errno{api.OK, api.ErrNone, api.ErrNone, api.ErrNone, api.ErrNone, api.ErrNone, api.ErrNone, api.ErrNone, api.ErrLimit, api.OK} {
		if e := list[i][len(list[i])-1]; e != want {
			t.Error(i, e, want)
		}
	}
}

func TestAnyText(t *testing.T) {
	rng := rand.New(rand.NewSource(166))
	parts := []string{"ground", "site", "path", "strip", "spark", " ", " ", " ", "\n", "\n", "a", "b", "0", "1", "9", "20", "-", "\xff", "\x00", "ü", exampleText, groundLine, siteLines, siteLine, otherLine, pathLine, stripLine, sparkLine}
	good := 0
	for range 20000 {
		text := exampleText
		if rng.Intn(2) == 0 {
			text = ""
			for range rng.Intn(20) {
				text += parts[rng.Intn(len(parts))]
			}
		} else {
			i := rng.Intn(len(text))
			text = text[:i] + parts[rng.Intn(len(parts))] + text[min(len(text), i+rng.Intn(4)):]
		}
		g, line, e := fire.Parse(text)
		if e != api.OK {
			if !sameGround(g, api.Ground{}) || line < 0 || line > strings.Count(text, "\n")+1 || line == 0 && e == api.ErrForm && text != "" || line > 0 && e != api.ErrForm && e != api.ErrNone {
				t.Fatalf("%q: %v %d %d", text, g, line, e)
			}
			continue
		}
		good++
		if again, e := fire.Print(g); e != api.OK || line != 0 || again != text && again != text+"\n" {
			t.Fatalf("%q: %q %d %d", text, again, line, e)
		}
	}
	if good < 100 {
		t.Error(good)
	}
}

// A nil list and an empty one are the same.
func TestNilAndEmpty(t *testing.T) {
	same := func(a, b [][]any) {
		t.Helper()
		for i, results := range a {
			for k, x := range results {
				if y := b[i][k]; !reflect.DeepEqual(x, y) && !(isNothing(x) && isNothing(y)) {
					t.Error(i, x, y)
				}
			}
		}
	}
	empty := api.Ground{Sites: []string{}, Paths: []api.Path{}, Strips: []api.Strip{}, Sparks: []api.Spark{}}
	roof := api.Roof{Faces: []api.Face{}, Opens: []api.Open{}}
	over := api.Span{Low: 1, High: 1}
	same(answers(asked{over: over, down: 1, up: 1, across: 1}), answers(asked{empty, list(), list(), list(), 0, 0, roof, over, 1, 1, 1}))
	// with strips that have no paths
	none, some := changed(func(g *api.Ground) { g.Strips[0].Paths = nil }), changed(func(g *api.Ground) { g.Strips[0].Paths = list() })
	same(answers(asked{ground: none, earliest: list(0, 10, 15)}), answers(asked{ground: some, plan: list(), earliest: list(0, 10, 15), sites: list()}))
	same(answers(asked{ground: none, plan: list(0), sites: list(2), time: 20}), answers(asked{ground: some, plan: list(0), earliest: list(), sites: list(2), time: 20}))
}

// spent changes a list, and what it has room for.
func spent(list []int) {
	list = list[:cap(list)]
	for i := range list {
		list[i] = -9
	}
}

func spentGround(g api.Ground) {
	for _, s := range g.Strips {
		spent(s.Paths)
	}
	clear(g.Sites[:cap(g.Sites)])
	clear(g.Paths[:cap(g.Paths)])
	clear(g.Strips[:cap(g.Strips)])
	clear(g.Sparks[:cap(g.Sparks)])
}

// What is returned shares no memory with the arguments, nor with what another call returns, nor within itself.
func TestNewMemory(t *testing.T) {
	g, plan, sites, r := example(), list(0, 1), list(2), house()
	for range 2 {
		cleared, _ := fire.Cleared(g, plan)
		earliest, latest, _ := fire.Times(g, plan)
		may, surely, _ := fire.Burning(g, plan, 20)
		way, _, _ := fire.Way(g, nil, 2)
		best, _, _ := fire.Save(g, sites, 40)
		parsed, _, _ := fire.Parse(exampleText)
		burnt, _ := fire.House(r, api.Span{Low: 2, High: 3}, 1, 5, 7)
		want := []struct{ got, want []int }{
			{cleared, list(7, 22)}, {earliest, list(0, 10, -1)}, {latest, list(0, 20, -1)}, {may, list(0, 1)}, {surely, list(0, 1)}, {way, list(0, 1)}, {best, list(0, 1)},
			{parsed.Strips[0].Paths, list(1)}, {parsed.Strips[1].Paths, list(2)},
		}
		for i, x := range want {
			if !slices.Equal(x.got, x.want) {
				t.Fatal(i, x)
			}
			spent(x.got)
		}
		if len(burnt.Paths) != 2 || len(parsed.Paths) != 3 {
			t.Fatal(burnt, parsed)
		}
		spentGround(parsed)
		spentGround(burnt)
	}
	if !sameGround(g, example()) || !slices.Equal(plan, list(0, 1)) || !slices.Equal(sites, list(2)) || !reflect.DeepEqual(r, house()) {
		t.Error(g, plan, sites, r)
	}
}

// Calls at the same time are each as if it were alone.
func TestAtTheSameTime(t *testing.T) {
	rng := rand.New(rand.NewSource(167))
	g := defended(rng)
	q := asked{ground: g, plan: randomPlan(rng, g), sites: list(1, 2), site: 2, time: 30, roof: hipped(), over: api.Span{Low: 2, High: 3}, down: 1, up: 5, across: 7}
	want := answers(q)
	var all sync.WaitGroup
	for range 8 {
		all.Go(func() {
			for range 20 {
				if got := answers(q); !reflect.DeepEqual(got, want) {
					t.Error(got, want)
				}
			}
		})
	}
	all.Wait()
}
