package straw_test

import (
	"math"
	"slices"
	"testing"

	"thatch/api"
	"thatch/straw"
)

// P2.2 (Do, Run).

// tried is a chore and its error.
type tried struct {
	name string
	a    api.Chore
	want api.Errno
}

func tryAll(t *testing.T, f api.Farm, s api.Store, list []tried) {
	t.Helper()
	for _, c := range list {
		before := copyOf(s)
		next, e := straw.Do(f, s, c.a)
		if e != c.want {
			t.Errorf("%s: %d, not %d", c.name, e, c.want)
		}
		if e != api.OK && !isZero(next) {
			t.Errorf("%s: with an error, %v", c.name, next)
		}
		if !sameStore(s, before) {
			t.Fatalf("%s: the store is changed", c.name)
		}
	}
}

func expect(t *testing.T, f api.Farm, s api.Store, a api.Chore, want api.Store) {
	t.Helper()
	if got, e := straw.Do(f, s, a); e != api.OK || !sameStore(got, want) {
		t.Errorf("%v: error %d\n%v, not\n%v", a, e, got, want)
	}
}

func TestExamples(t *testing.T) {
	f := farm()
	s := begin(t, f)
	reed := api.Heap{Name: "a", Crop: api.CrReed, Stage: api.HpCut, Parts: parts(0, 44), Wet: span(200, 300)}
	want := api.Store{Last: []int{0, -1}, Given: []int{44, 0}, Heaps: []api.Heap{reed}}
	expect(t, f, s, cut(0, 44, "a"), want)

	s, reed.Wet = copyOf(want), span(0, 160)
	want.Heaps = []api.Heap{reed}
	expect(t, f, s, dry("a", 20, 0, 4), want)
	tryAll(t, f, want, []tried{{"too wet", comb("a", 4), api.ErrState}})

	s, reed.Wet = copyOf(want), span(0, 140)
	want.Heaps = []api.Heap{reed}
	expect(t, f, s, dry("a", 2, 0, 0), want)

	s, reed.Stage, reed.Parts = copyOf(want), api.HpCombed, parts(0, 40)
	want.Heaps, want.Waste = []api.Heap{reed}, parts(0, 4)
	expect(t, f, s, comb("a", 4), want)

	s, reed.Parts = copyOf(want), parts(0, 1)
	bound := api.Heap{Name: "r", Crop: api.CrReed, Stage: api.HpBound, Parts: parts(0, 39), Per: 3, Wet: span(0, 140)}
	want.Heaps = []api.Heap{reed, bound}
	expect(t, f, s, bind("a", "r", 3), want)

	s, bound.Parts = copyOf(want), parts(0, 24)
	want.Heaps, want.Used = []api.Heap{reed, bound}, parts(0, 15)
	expect(t, f, s, use("r", 5), want)
}

// Of a chore with a kind that does not exist, or with a field that its kind does not name, the error is ErrArg ahead of all others.
func TestFieldsOfKinds(t *testing.T) {
	f, s := farm(), stocked()
	for _, kind := range []api.ChoreKind{math.MinInt, -1, api.ChNone, api.ChRot + 1, math.MaxInt} {
		tryAll(t, f, s, []tried{{"no kind", api.Chore{Kind: kind}, api.ErrArg}, {"no kind, with a name", api.Chore{Kind: kind, Name: "a"}, api.ErrArg}})
	}
	fields := map[string]func(a *api.Chore){
		"Plot":      func(a *api.Chore) { a.Plot = 1 },
		"Loads":     func(a *api.Chore) { a.Loads = 1 },
		"Name":      func(a *api.Chore) { a.Name = "none" },
		"Other":     func(a *api.Chore) { a.Other = "none" },
		"Days":      func(a *api.Chore) { a.Days = 1 },
		"Per":       func(a *api.Chore) { a.Per = -1 },
		"Rain.Low":  func(a *api.Chore) { a.Rain.Low = 1 },
		"Rain.High": func(a *api.Chore) { a.Rain.High = -1 },
	}
	full := copyOf(s)
	full.Year, full.Last[0] = api.MaxYear, api.MaxYear
	for kind, c := range map[api.ChoreKind]struct {
		own   []string
		error api.Errno // of the chore without any field
	}{
		api.ChYear: {nil, api.ErrLimit},
		api.ChCut:  {[]string{"Plot", "Loads", "Name"}, api.ErrName},
		api.ChDry:  {[]string{"Name", "Days", "Rain.Low", "Rain.High"}, api.ErrNone},
		api.ChComb: {[]string{"Name", "Loads"}, api.ErrNone},
		api.ChJoin: {[]string{"Name", "Other"}, api.ErrNone},
		api.ChBind: {[]string{"Name", "Other", "Per"}, api.ErrNone},
		api.ChUse:  {[]string{"Name", "Loads"}, api.ErrNone},
		api.ChRot:  {[]string{"Name"}, api.ErrNone},
	} {
		tryAll(t, f, full, []tried{{"without any field", api.Chore{Kind: kind}, c.error}})
		for name, set := range fields {
			a := api.Chore{Kind: kind}
			set(&a)
			if _, e := straw.Do(f, full, a); (e == api.ErrArg) == slices.Contains(c.own, name) {
				t.Error(kind, name, e)
			}
		}
	}
}

func TestYear(t *testing.T) {
	f, s := farm(), stocked()
	want := copyOf(s)
	want.Year = 4
	expect(t, f, s, year, want)
	s.Year, want.Year = 99, 100
	expect(t, f, s, year, want)
	tryAll(t, f, want, []tried{{"year 101", year, api.ErrLimit}})
}

func TestCut(t *testing.T) {
	f, s := farm(), stocked()
	want := copyOf(s)
	want.Last[1], want.Given[1] = 3, 38
	want.Heaps = append(want.Heaps, api.Heap{Name: "new", Crop: api.CrStraw, Stage: api.HpCut, Parts: parts(1, 18), Wet: span(100, 140)})
	expect(t, f, s, cut(1, 18, "new"), want)
	tryAll(t, f, s, []tried{
		{"no field", cut(2, 10, "A"), api.ErrNone},
		{"field -1", cut(-1, 10, "A"), api.ErrNone},
		{"a far field", cut(math.MinInt, 10, "new"), api.ErrNone},
		{"no name", cut(0, 0, ""), api.ErrName},
		{"a bad name", cut(0, 0, "A"), api.ErrName},
		{"twice", cut(0, 0, "c"), api.ErrTwice},
		{"cut in this year", cut(0, 0, "new"), api.ErrState},
		{"9 loads of 10 to 18", cut(1, 9, "new"), api.ErrArg},
		{"10 loads", cut(1, 10, "new"), api.OK},
		{"19 loads", cut(1, 19, "new"), api.ErrArg},
		{"no loads", cut(1, 0, "new"), api.ErrArg},
		{"loads below 0", cut(1, -10, "new"), api.ErrArg},
		{"very many loads", cut(1, math.MaxInt, "new"), api.ErrArg},
	})
	f.Plots[1].Yield.Low = 0
	tryAll(t, f, s, []tried{{"0 of 0 to 18", cut(1, 0, "new"), api.ErrArg}, {"1 of 0 to 18", cut(1, 1, "new"), api.OK}})
}

func TestRest(t *testing.T) {
	f := farm()
	for _, c := range []struct {
		rest, last, year int
		want             api.Errno
	}{
		{1, 0, 0, api.ErrState}, {1, 0, 1, api.OK}, {2, 0, 0, api.ErrState}, {2, 0, 1, api.ErrState}, {2, 0, 2, api.OK}, {2, 0, 3, api.OK},
		{2, 5, 6, api.ErrState}, {2, 5, 7, api.OK}, {100, 0, 99, api.ErrState}, {100, 0, 100, api.OK}, {100, 1, 100, api.ErrState},
		{1, -1, 0, api.OK}, {2, -1, 0, api.OK}, {100, -1, 0, api.OK}, {100, -1, 100, api.OK}, {3, -1, 1, api.OK},
	} {
		f.Plots[0].Rest = c.rest
		s := begin(t, f)
		s.Year, s.Last[0] = c.year, c.last
		tryAll(t, f, s, []tried{{"a cut", cut(0, 40, "x"), c.want}})
		if c.want == api.OK {
			if s, _ := straw.Do(f, s, cut(0, 40, "x")); s.Last[0] != c.year {
				t.Error(c, s.Last)
			}
		}
	}
}

func TestCutLimits(t *testing.T) {
	f := reeds()
	tryAll(t, f, heaps(15), []tried{{"heap 16", cut(1, 1, "x"), api.OK}})
	tryAll(t, f, heaps(16), []tried{{"heap 17", cut(1, 1, "x"), api.ErrLimit}, {"heap 17, without loads", cut(1, 0, "x"), api.ErrArg}})
	tryAll(t, f, begin(t, f), []tried{{"all in one cut", cut(0, 100000, "x"), api.OK}, {"more", cut(0, 100001, "x"), api.ErrArg}})
	// Loads that are used or wasted are in the store, too.
	s := heaps(1)
	s.Used, s.Waste, s.Given = parts(0, 2), parts(1, 3), []int{3, 3, 0}
	tryAll(t, f, s, []tried{{"100000 together", cut(2, 99994, "x"), api.OK}, {"100001 together", cut(2, 99995, "x"), api.ErrLimit}})
}

func TestDry(t *testing.T) {
	f, s := farm(), stocked()
	for _, c := range []struct {
		wet             api.Span
		days, low, high int
		want            api.Span
	}{
		{span(200, 300), 0, 0, 0, span(200, 300)},
		{span(200, 300), 1, 0, 0, span(180, 290)},
		{span(200, 300), 0, 1, 1, span(205, 315)},
		{span(200, 300), 0, 0, 1, span(200, 315)},
		{span(200, 300), 3, 2, 5, span(150, 345)},
		{span(200, 300), 10, 0, 0, span(0, 200)},
		{span(200, 300), 11, 0, 0, span(0, 190)},
		{span(200, 300), 11, 4, 4, span(0, 250)},
		{span(200, 300), 11, 5, 5, span(5, 265)},
		{span(200, 300), 365, 0, 0, span(0, 0)},
		{span(200, 300), 365, 0, 100, span(0, 0)},
		{span(200, 300), 30, 0, 0, span(0, 0)},
		{span(200, 300), 29, 0, 0, span(0, 10)},
		{span(200, 300), 0, 0, 46, span(200, 990)},
		{span(200, 300), 0, 0, 47, span(200, 1000)},
		{span(200, 300), 1, 0, 47, span(180, 995)},
		{span(700, 900), 0, 100, 100, span(1000, 1000)},
		{span(700, 900), 0, 59, 59, span(995, 1000)},
		{span(700, 900), 10, 100, 100, span(1000, 1000)},
		{span(0, 1000), 0, 0, 100, span(0, 1000)},
	} {
		s.Heaps[0].Wet = c.wet
		want := copyOf(s)
		want.Heaps[0].Wet = c.want
		expect(t, f, s, dry("a", c.days, c.low, c.high), want)
	}
	tryAll(t, f, s, []tried{
		{"no heap", dry("none", -1, 0, 0), api.ErrNone},
		{"a heap without a name", dry("", 1, 0, 0), api.ErrNone},
		{"bound", dry("b", -1, 0, 0), api.ErrState},
		{"combed", dry("c", 1, 0, 0), api.OK},
		{"-1 days", dry("a", -1, 0, 0), api.ErrArg},
		{"365 days", dry("a", 365, 0, 0), api.OK},
		{"366 days", dry("a", 366, 0, 0), api.ErrArg},
		{"very many days", dry("a", math.MaxInt, 0, 0), api.ErrArg},
		{"-1 rains", dry("a", 1, -1, 0), api.ErrArg},
		{"100 rains", dry("a", 1, 100, 100), api.OK},
		{"101 rains", dry("a", 1, 0, 101), api.ErrArg},
		{"2 rains to 1", dry("a", 1, 2, 1), api.ErrArg},
	})
}

// mixed is a store of the reeds with a heap m of all three fields.
func mixed() api.Store {
	return api.Store{
		Last:  []int{-1, -1, -1},
		Given: []int{9, 7, 14},
		Heaps: []api.Heap{
			{Name: "l", Crop: api.CrReed, Stage: api.HpCut, Parts: parts(2, 1), Wet: span(0, 50)},
			{Name: "m", Crop: api.CrReed, Stage: api.HpCut, Parts: parts(0, 5, 1, 4, 2, 6, 0, 3), Wet: span(40, 100)},
			{Name: "n", Crop: api.CrReed, Stage: api.HpCut, Parts: parts(0, 1, 2, 2), Wet: span(30, 90)},
		},
		Used:  parts(1, 3),
		Waste: parts(2, 5),
	}
}

func TestComb(t *testing.T) {
	f := reeds()
	for _, c := range []struct {
		loads       int
		rest, waste []api.Portion
	}{
		{0, parts(0, 5, 1, 4, 2, 6, 0, 3), parts(2, 5)},
		{1, parts(0, 4, 1, 4, 2, 6, 0, 3), parts(2, 5, 0, 1)},
		{5, parts(1, 4, 2, 6, 0, 3), parts(2, 5, 0, 5)},
		{7, parts(1, 2, 2, 6, 0, 3), parts(2, 5, 0, 5, 1, 2)},
		{9, parts(2, 6, 0, 3), parts(2, 5, 0, 5, 1, 4)},
		{17, parts(0, 1), parts(2, 5, 0, 5, 1, 4, 2, 6, 0, 2)},
	} {
		want := mixed()
		want.Heaps[1].Stage, want.Heaps[1].Parts, want.Waste = api.HpCombed, c.rest, c.waste
		expect(t, f, mixed(), comb("m", c.loads), want)
	}
	s := mixed()
	s.Waste[0].Plot, s.Given = 0, []int{14, 7, 9}
	want := copyOf(s)
	want.Heaps[1].Stage, want.Heaps[1].Parts, want.Waste = api.HpCombed, parts(1, 3, 2, 6, 0, 3), parts(0, 10, 1, 1)
	expect(t, f, s, comb("m", 6), want)
	tryAll(t, f, mixed(), []tried{
		{"no heap", comb("none", -1), api.ErrNone},
		{"-1 loads", comb("m", -1), api.ErrArg},
		{"all loads", comb("m", 18), api.ErrArg},
		{"very many loads", comb("m", math.MaxInt), api.ErrArg},
		{"the one load", comb("l", 1), api.ErrArg},
		{"none of one load", comb("l", 0), api.OK},
	})
	s = mixed()
	s.Heaps[1].Wet.High = 101
	tryAll(t, f, s, []tried{{"too wet", comb("m", -1), api.ErrState}})
	tryAll(t, farm(), stocked(), []tried{{"combed", comb("c", -1), api.ErrState}, {"bound", comb("b", -1), api.ErrState}})
}

func TestJoin(t *testing.T) {
	f := reeds()
	want := mixed()
	want.Heaps[1].Parts, want.Heaps[1].Wet = parts(0, 5, 1, 4, 2, 6, 0, 4, 2, 2), span(30, 100)
	want.Heaps = want.Heaps[:2]
	expect(t, f, mixed(), join("m", "n"), want)

	want = mixed()
	want.Heaps[1].Parts, want.Heaps[1].Wet = parts(0, 5, 1, 4, 2, 6, 0, 3, 2, 1), span(0, 100)
	want.Heaps = want.Heaps[1:]
	expect(t, f, mixed(), join("m", "l"), want)

	want = mixed()
	want.Heaps[0].Parts, want.Heaps[0].Wet = parts(2, 1, 0, 1, 2, 2), span(0, 90)
	want.Heaps = want.Heaps[:2]
	expect(t, f, mixed(), join("l", "n"), want)

	s := mixed()
	s.Heaps[0].Stage, s.Heaps[1].Stage = api.HpCombed, api.HpCombed
	tryAll(t, f, s, []tried{
		{"combed ones", join("l", "m"), api.OK},
		{"a combed one and a cut one", join("l", "n"), api.ErrState},
		{"a cut one and a combed one", join("n", "l"), api.ErrState},
		{"no heap", join("none", "m"), api.ErrNone},
		{"no other heap", join("m", "none"), api.ErrNone},
		{"no heap at all", join("none", "none"), api.ErrNone},
		{"itself", join("m", "m"), api.ErrClash},
	})
	s.Heaps[0].Stage, s.Heaps[0].Per, s.Heaps[1].Stage, s.Heaps[1].Per = api.HpBound, 1, api.HpBound, 1
	tryAll(t, f, s, []tried{
		{"bound ones", join("l", "m"), api.ErrState},
		{"a bound one, itself", join("l", "l"), api.ErrClash},
	})
	s = stocked()
	s.Heaps[0].Stage = api.HpCombed
	tryAll(t, farm(), s, []tried{{"of two crops", join("a", "c"), api.ErrState}})
}

func TestBind(t *testing.T) {
	f, s := reeds(), mixed()
	s.Heaps[1].Stage = api.HpCombed
	bound := api.Heap{Name: "x", Crop: api.CrReed, Stage: api.HpBound, Wet: span(40, 100)}
	for _, c := range []struct {
		per         int
		parts, rest []api.Portion
	}{
		{1, parts(0, 5, 1, 4, 2, 6, 0, 3), nil},
		{9, parts(0, 5, 1, 4, 2, 6, 0, 3), nil},
		{18, parts(0, 5, 1, 4, 2, 6, 0, 3), nil},
		{17, parts(0, 5, 1, 4, 2, 6, 0, 2), parts(0, 1)},
		{5, parts(0, 5, 1, 4, 2, 6), parts(0, 3)},
		{7, parts(0, 5, 1, 4, 2, 5), parts(2, 1, 0, 3)},
		{10, parts(0, 5, 1, 4, 2, 1), parts(2, 5, 0, 3)},
	} {
		want := copyOf(s)
		bound.Per, bound.Parts = c.per, c.parts
		want.Heaps[1].Parts = c.rest
		if c.rest == nil {
			want.Heaps = slices.Delete(want.Heaps, 1, 2)
		}
		want.Heaps = append(want.Heaps, bound)
		expect(t, f, s, bind("m", "x", c.per), want)
	}
	tryAll(t, f, s, []tried{
		{"no heap", bind("none", "A", 0), api.ErrNone},
		{"a bad name", bind("m", "A", 0), api.ErrName},
		{"no name", bind("m", "", 0), api.ErrName},
		{"twice", bind("m", "n", 0), api.ErrTwice},
		{"its own name", bind("m", "m", 18), api.ErrTwice},
		{"cut", bind("n", "x", 0), api.ErrState},
		{"Per 0", bind("m", "x", 0), api.ErrArg},
		{"Per below 0", bind("m", "x", -1), api.ErrArg},
		{"Per 101", bind("m", "x", 101), api.ErrArg},
		{"Per 100 of 18", bind("m", "x", 100), api.ErrScope},
		{"Per 19 of 18", bind("m", "x", 19), api.ErrScope},
	})
	s.Heaps[1].Wet.High = 101
	tryAll(t, f, s, []tried{{"too wet", bind("m", "x", 0), api.ErrState}})
	tryAll(t, farm(), stocked(), []tried{{"bound", bind("b", "x", 0), api.ErrState}})
}

// There are not more heaps than before if the one that is bound has no rest.
func TestBindLimits(t *testing.T) {
	s := heaps(16)
	s.Heaps[3].Stage, s.Heaps[3].Parts, s.Given[0] = api.HpCombed, parts(0, 100), 115
	tryAll(t, reeds(), s, []tried{
		{"with a rest", bind("h3", "x", 3), api.ErrLimit},
		{"too few", bind("h3", "x", 101), api.ErrArg},
		{"without a rest", bind("h3", "x", 4), api.OK},
		{"Per 100", bind("h3", "x", 100), api.OK},
	})
	after, _ := straw.Do(reeds(), s, bind("h3", "x", 4))
	if len(after.Heaps) != 16 || after.Heaps[3].Name != "h4" || after.Heaps[15].Name != "x" {
		t.Error(after)
	}
	s.Heaps = s.Heaps[:15]
	s.Given[0]--
	tryAll(t, reeds(), s, []tried{{"with a rest, heap 16", bind("h3", "x", 3), api.OK}})
}

func TestUse(t *testing.T) {
	f, s := reeds(), mixed()
	s.Heaps[1].Stage, s.Heaps[1].Per = api.HpBound, 3
	for _, c := range []struct {
		bundles    int
		rest, used []api.Portion
	}{
		{1, parts(0, 2, 1, 4, 2, 6, 0, 3), parts(1, 3, 0, 3)},
		{2, parts(1, 3, 2, 6, 0, 3), parts(1, 3, 0, 5, 1, 1)},
		{5, parts(0, 3), parts(1, 3, 0, 5, 1, 4, 2, 6)},
		{6, nil, parts(1, 3, 0, 5, 1, 4, 2, 6, 0, 3)},
	} {
		want := copyOf(s)
		want.Heaps[1].Parts, want.Used = c.rest, c.used
		if c.rest == nil {
			want.Heaps = slices.Delete(want.Heaps, 1, 2)
		}
		expect(t, f, s, use("m", c.bundles), want)
	}
	s.Used[0].Plot, s.Given = 0, []int{12, 4, 14}
	want := copyOf(s)
	want.Heaps[1].Parts, want.Used = parts(0, 2, 1, 4, 2, 6, 0, 3), parts(0, 6)
	expect(t, f, s, use("m", 1), want)
	tryAll(t, f, s, []tried{
		{"no heap", use("none", 0), api.ErrNone},
		{"cut", use("n", 0), api.ErrState},
		{"no bundles", use("m", 0), api.ErrArg},
		{"-1 bundles", use("m", -1), api.ErrArg},
		{"7 bundles of 6", use("m", 7), api.ErrArg},
		{"very many bundles", use("m", math.MaxInt), api.ErrArg},
	})
	tryAll(t, farm(), stocked(), []tried{{"combed", use("c", 0), api.ErrState}})
}

func TestRot(t *testing.T) {
	f := reeds()
	f.Dry = 95
	want := mixed()
	want.Heaps = slices.Delete(want.Heaps, 1, 2)
	want.Waste = parts(2, 5, 0, 5, 1, 4, 2, 6, 0, 3)
	expect(t, f, mixed(), rot("m"), want)
	tryAll(t, f, mixed(), []tried{{"no heap", rot("none"), api.ErrNone}, {"dry", rot("n"), api.ErrState}})
	f.Dry = 89
	tryAll(t, f, mixed(), []tried{{"a little too wet", rot("n"), api.OK}})
	f.Dry = 90
	tryAll(t, f, mixed(), []tried{{"just dry", rot("n"), api.ErrState}})
	f.Dry = 0
	for _, stage := range []api.HeapStage{api.HpCombed, api.HpBound} {
		s := mixed()
		s.Heaps[0].Stage = stage
		if stage == api.HpBound {
			s.Heaps[0].Per = 1
		}
		want := copyOf(s)
		want.Heaps, want.Waste = want.Heaps[1:], parts(2, 6)
		expect(t, f, s, rot("l"), want)
	}
}

func TestRun(t *testing.T) {
	f := farm()
	l := []api.Chore{cut(0, 44, "a"), dry("a", 22, 0, 4), comb("a", 4), bind("a", "r", 3), use("r", 5)}
	s, n, e := straw.Run(f, begin(t, f), l)
	if e != api.OK || n != 5 || len(s.Heaps) != 2 || !slices.Equal(s.Used, parts(0, 15)) {
		t.Error(s, n, e)
	}
	for i := range l {
		wrong := slices.Clone(l)
		wrong[i] = rot("none")
		ahead := after(t, f, l[:i]...)
		if s, n, e := straw.Run(f, begin(t, f), wrong); e != api.ErrNone || n != i || !sameStore(s, ahead) {
			t.Error(i, s, n, e)
		}
	}
	if s, n, e := straw.Run(f, stocked(), nil); e != api.OK || n != 0 || !sameStore(s, stocked()) {
		t.Error(s, n, e)
	}
	if s, n, e := straw.Run(f, stocked(), []api.Chore{rot("a"), rot("b"), {}}); e != api.ErrState || n != 1 || len(s.Heaps) != 2 {
		t.Error(s, n, e)
	}
}

func TestRunLimit(t *testing.T) {
	f := farm()
	days := func(n int) []api.Chore { return slices.Repeat([]api.Chore{dry("c", 1, 0, 0)}, n) }
	if s, n, e := straw.Run(f, stocked(), days(200)); e != api.OK || n != 200 || !sameStore(s, stocked()) {
		t.Error(s, n, e)
	}
	if s, n, e := straw.Run(f, stocked(), days(201)); e != api.ErrLimit || n != 0 || !isZero(s) {
		t.Error(s, n, e)
	}
	if s, n, e := straw.Run(f, begin(t, f), years(101)); e != api.ErrLimit || n != 100 || s.Year != 100 {
		t.Error(s, n, e)
	}
}
