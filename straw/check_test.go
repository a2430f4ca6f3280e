package straw_test

import (
	"math"
	"slices"
	"strconv"
	"strings"
	"testing"

	"thatch/api"
	"thatch/straw"
)

// P2.1 (Check, New, CheckStore).

func TestCheckPlot(t *testing.T) {
	for _, c := range []struct {
		name string
		do   func(p *api.Plot)
		want api.Errno
	}{
		{"as it is", func(p *api.Plot) {}, api.OK},
		{"no name", func(p *api.Plot) { p.Name = "" }, api.ErrName},
		{"a name of 16", func(p *api.Plot) { p.Name = strings.Repeat("a", 16) }, api.OK},
		{"a name of 17", func(p *api.Plot) { p.Name = strings.Repeat("a", 17) }, api.ErrName},
		{"a digit first", func(p *api.Plot) { p.Name = "1a" }, api.ErrName},
		{"twice", func(p *api.Plot) { p.Name = "fen" }, api.ErrTwice},
		{"no crop", func(p *api.Plot) { p.Crop = api.CrNone }, api.ErrArg},
		{"reed", func(p *api.Plot) { p.Crop = api.CrReed }, api.OK},
		{"heather", func(p *api.Plot) { p.Crop = api.CrHeather }, api.OK},
		{"behind the crops", func(p *api.Plot) { p.Crop = api.CrHeather + 1 }, api.ErrArg},
		{"a crop below", func(p *api.Plot) { p.Crop = math.MinInt }, api.ErrArg},
		{"size 0", func(p *api.Plot) { p.Size = 0 }, api.ErrArg},
		{"size 1", func(p *api.Plot) { p.Size = 1 }, api.OK},
		{"size 100", func(p *api.Plot) { p.Size = 100 }, api.OK},
		{"size 101", func(p *api.Plot) { p.Size = 101 }, api.ErrArg},
		{"yield from -1", func(p *api.Plot) { p.Yield = span(-1, 5) }, api.ErrArg},
		{"yield 0", func(p *api.Plot) { p.Yield = span(0, 0) }, api.OK},
		{"yield 1000", func(p *api.Plot) { p.Yield = span(1000, 1000) }, api.OK},
		{"yield to 1001", func(p *api.Plot) { p.Yield = span(5, 1001) }, api.ErrArg},
		{"yield 6 to 5", func(p *api.Plot) { p.Yield = span(6, 5) }, api.ErrArg},
		{"rest 0", func(p *api.Plot) { p.Rest = 0 }, api.ErrArg},
		{"rest 1", func(p *api.Plot) { p.Rest = 1 }, api.OK},
		{"rest 100", func(p *api.Plot) { p.Rest = 100 }, api.OK},
		{"rest 101", func(p *api.Plot) { p.Rest = 101 }, api.ErrArg},
		{"wet from -1", func(p *api.Plot) { p.Wet = span(-1, 5) }, api.ErrArg},
		{"wet 0 to 1000", func(p *api.Plot) { p.Wet = span(0, 1000) }, api.OK},
		{"wet 1000", func(p *api.Plot) { p.Wet = span(1000, 1000) }, api.OK},
		{"wet to 1001", func(p *api.Plot) { p.Wet = span(5, 1001) }, api.ErrArg},
		{"wet 6 to 5", func(p *api.Plot) { p.Wet = span(6, 5) }, api.ErrArg},
		{"cost -1", func(p *api.Plot) { p.Cost = -1 }, api.ErrArg},
		{"cost 0", func(p *api.Plot) { p.Cost = 0 }, api.OK},
		{"cost 1000000", func(p *api.Plot) { p.Cost = 1000000 }, api.OK},
		{"cost 1000001", func(p *api.Plot) { p.Cost = 1000001 }, api.ErrArg},
		{"no name, and no crop", func(p *api.Plot) { *p = api.Plot{} }, api.ErrName},
		{"twice, and no crop", func(p *api.Plot) { *p = api.Plot{Name: "fen"} }, api.ErrTwice},
	} {
		f := farm()
		c.do(&f.Plots[1])
		if e := straw.Check(f); e != c.want {
			t.Errorf("%s: %d, not %d", c.name, e, c.want)
		}
	}
}

func TestCheckFarm(t *testing.T) {
	many := func(n int) api.Farm {
		f := api.Farm{Dry: 1}
		for i := range n {
			p := farm().Plots[0]
			p.Name = "p" + strconv.Itoa(i)
			f.Plots = append(f.Plots, p)
		}
		return f
	}
	bad, badDry := farm(), farm()
	bad.Plots[0].Size, bad.Plots[1].Name, bad.Dry = 0, "", -1
	badDry.Plots[1].Name, badDry.Dry = "", -1
	tooMany := many(13)
	tooMany.Plots[0].Name = ""
	for _, c := range []struct {
		name string
		f    api.Farm
		want api.Errno
	}{
		{"no fields", api.Farm{}, api.OK},
		{"dry 1000", api.Farm{Dry: 1000}, api.OK},
		{"dry 1001", api.Farm{Dry: 1001}, api.ErrArg},
		{"dry -1", api.Farm{Dry: -1}, api.ErrArg},
		{"12 fields", many(12), api.OK},
		{"13 fields", many(13), api.ErrLimit},
		{"13 fields, a bad one", tooMany, api.ErrLimit},
		{"two bad fields", bad, api.ErrArg},
		{"a bad field, and Dry", badDry, api.ErrName},
	} {
		if e := straw.Check(c.f); e != c.want {
			t.Errorf("%s: %d, not %d", c.name, e, c.want)
		}
	}
}

func TestNew(t *testing.T) {
	s, e := straw.New(farm())
	if e != api.OK || !sameStore(s, api.Store{Last: []int{-1, -1}, Given: []int{0, 0}}) {
		t.Error(s, e)
	}
	if e := straw.CheckStore(farm(), s); e != api.OK {
		t.Error(e)
	}
	if s, e := straw.New(api.Farm{}); e != api.OK || !sameStore(s, api.Store{}) {
		t.Error(s, e)
	}
	if s, e := straw.New(api.Farm{Dry: -1}); e != api.ErrArg || !isZero(s) {
		t.Error(s, e)
	}
}

// stocked is a store of the farm of the examples that has something everywhere.
func stocked() api.Store {
	return api.Store{
		Year:  3,
		Last:  []int{3, -1},
		Given: []int{60, 20},
		Heaps: []api.Heap{
			{Name: "a", Crop: api.CrReed, Stage: api.HpCut, Parts: parts(0, 7), Wet: span(0, 1000)},
			{Name: "b", Crop: api.CrReed, Stage: api.HpBound, Parts: parts(0, 12), Per: 4, Wet: span(5, 5)},
			{Name: "c", Crop: api.CrStraw, Stage: api.HpCombed, Parts: parts(1, 5), Wet: span(0, 0)},
		},
		Used:  parts(0, 10, 1, 6, 0, 20),
		Waste: parts(1, 9, 0, 11),
	}
}

func TestCheckStore(t *testing.T) {
	for _, c := range []struct {
		name string
		do   func(s *api.Store)
		want api.Errno
	}{
		{"as it is", func(s *api.Store) {}, api.OK},
		{"the zero store", func(s *api.Store) { *s = api.Store{} }, api.ErrState},
		{"year -1", func(s *api.Store) { s.Year, s.Last[0] = -1, -1 }, api.ErrState},
		{"year 0", func(s *api.Store) { s.Year, s.Last[0] = 0, 0 }, api.OK},
		{"year 100", func(s *api.Store) { s.Year = 100 }, api.OK},
		{"year 101", func(s *api.Store) { s.Year = 101 }, api.ErrState},
		{"last -2", func(s *api.Store) { s.Last[1] = -2 }, api.ErrState},
		{"last 3", func(s *api.Store) { s.Last[1] = 3 }, api.OK},
		{"last 4", func(s *api.Store) { s.Last[1] = 4 }, api.ErrState},
		{"last of one field", func(s *api.Store) { s.Last = s.Last[:1] }, api.ErrState},
		{"last of three fields", func(s *api.Store) { s.Last = append(s.Last, -1) }, api.ErrState},
		{"given of one field", func(s *api.Store) { s.Given = s.Given[:1] }, api.ErrState},
		{"given of three fields", func(s *api.Store) { s.Given = append(s.Given, 0) }, api.ErrState},
		{"given less", func(s *api.Store) { s.Given[0]-- }, api.ErrState},
		{"given more", func(s *api.Store) { s.Given[1]++ }, api.ErrState},
		{"given by another one", func(s *api.Store) { s.Given[0]++; s.Given[1]-- }, api.ErrState},
		{"a heap without a name", func(s *api.Store) { s.Heaps[0].Name = "" }, api.ErrState},
		{"a heap with a bad name", func(s *api.Store) { s.Heaps[2].Name = "A" }, api.ErrState},
		{"two heaps with one name", func(s *api.Store) { s.Heaps[2].Name = "a" }, api.ErrState},
		{"a heap with a field's name", func(s *api.Store) { s.Heaps[2].Name = "fen" }, api.OK},
		{"a heap without a crop", func(s *api.Store) { s.Heaps[0].Crop = api.CrNone }, api.ErrState},
		{"a heap of no crop", func(s *api.Store) { s.Heaps[0].Crop = 4 }, api.ErrState},
		{"a heap of another crop", func(s *api.Store) { s.Heaps[0].Crop = api.CrStraw }, api.ErrState},
		{"a heap without a stage", func(s *api.Store) { s.Heaps[0].Stage = api.HpNone }, api.ErrState},
		{"a heap of no stage", func(s *api.Store) { s.Heaps[0].Stage = 4 }, api.ErrState},
		{"a heap of another stage", func(s *api.Store) { s.Heaps[0].Stage = api.HpCombed }, api.OK},
		{"a cut heap with Per", func(s *api.Store) { s.Heaps[0].Per = 7 }, api.ErrState},
		{"a combed heap with Per", func(s *api.Store) { s.Heaps[2].Per = 1 }, api.ErrState},
		{"a bound heap without Per", func(s *api.Store) { s.Heaps[1].Per = 0 }, api.ErrState},
		{"Per below 0", func(s *api.Store) { s.Heaps[1].Per = -4 }, api.ErrState},
		{"Per 1", func(s *api.Store) { s.Heaps[1].Per = 1 }, api.OK},
		{"Per 12", func(s *api.Store) { s.Heaps[1].Per = 12 }, api.OK},
		{"Per 5 of 12", func(s *api.Store) { s.Heaps[1].Per = 5 }, api.ErrState},
		{"Per 24 of 12", func(s *api.Store) { s.Heaps[1].Per = 24 }, api.ErrState},
		{"Per 100", func(s *api.Store) { s.Heaps[1].Per, s.Heaps[1].Parts[0].Loads, s.Given[0] = 100, 200, 248 }, api.OK},
		{"Per 101", func(s *api.Store) { s.Heaps[1].Per, s.Heaps[1].Parts[0].Loads, s.Given[0] = 101, 202, 250 }, api.ErrState},
		{"wet from -1", func(s *api.Store) { s.Heaps[0].Wet.Low = -1 }, api.ErrState},
		{"wet to 1001", func(s *api.Store) { s.Heaps[0].Wet.High = 1001 }, api.ErrState},
		{"wet 6 to 5", func(s *api.Store) { s.Heaps[1].Wet.Low = 6 }, api.ErrState},
		{"a heap without parts", func(s *api.Store) { s.Heaps[0].Parts, s.Given[0] = nil, 53 }, api.ErrState},
		{"a part without loads", func(s *api.Store) { s.Heaps[0].Parts[0].Loads, s.Given[0] = 0, 53 }, api.ErrState},
		{"a part of -1 loads", func(s *api.Store) { s.Heaps[0].Parts[0].Loads, s.Given[0] = -1, 52 }, api.ErrState},
		{"a part of no field", func(s *api.Store) { s.Heaps[0].Parts[0].Plot = 2 }, api.ErrState},
		{"a part of field -1", func(s *api.Store) { s.Heaps[0].Parts[0].Plot = -1 }, api.ErrState},
		{"a part of a field of another crop", func(s *api.Store) { s.Heaps[0].Parts = parts(0, 3, 1, 4); s.Given = []int{56, 24} }, api.ErrState},
		{"neighbours of one field", func(s *api.Store) { s.Heaps[0].Parts = parts(0, 3, 0, 4) }, api.ErrState},
		{"used without loads", func(s *api.Store) { s.Used = parts(0, 30, 1, 6, 0, 0) }, api.ErrState},
		{"used below 0", func(s *api.Store) { s.Used = parts(0, 31, 1, 6, 0, -1) }, api.ErrState},
		{"used of no field", func(s *api.Store) { s.Used[0].Plot = 2 }, api.ErrState},
		{"used of neighbours of one field", func(s *api.Store) { s.Used = parts(0, 10, 0, 20, 1, 6) }, api.ErrState},
		{"nothing used", func(s *api.Store) { s.Used = nil; s.Given = []int{30, 14} }, api.OK},
		{"waste without loads", func(s *api.Store) { s.Waste = append(s.Waste, parts(1, 0)...) }, api.ErrState},
		{"waste of no field", func(s *api.Store) { s.Waste[1].Plot = -1 }, api.ErrState},
		{"waste of neighbours of one field", func(s *api.Store) { s.Waste = parts(1, 4, 1, 5, 0, 11) }, api.ErrState},
		{"no waste", func(s *api.Store) { s.Waste = nil; s.Given = []int{49, 11} }, api.OK},
		{"no heaps", func(s *api.Store) { s.Heaps = nil; s.Given = []int{41, 15} }, api.OK},
		{"100000 loads", func(s *api.Store) { s.Used[2].Loads += 99920; s.Given[0] += 99920 }, api.OK},
		{"100001 loads", func(s *api.Store) { s.Used[2].Loads += 99921; s.Given[0] += 99921 }, api.ErrState},
		{"100001 loads, in two places", func(s *api.Store) { s.Used[2].Loads += 50000; s.Waste[0].Loads += 49921; s.Given = []int{50060, 49941} }, api.ErrState},
		{"a part of 100000 loads alone", func(s *api.Store) {
			*s = api.Store{Last: []int{-1, -1}, Given: []int{0, 100000}, Waste: parts(1, 100000)}
		}, api.OK},
		{"a part of 100001 loads alone", func(s *api.Store) {
			*s = api.Store{Last: []int{-1, -1}, Given: []int{0, 100001}, Waste: parts(1, 100001)}
		}, api.ErrState},
		{"sums that go around", func(s *api.Store) {
			s.Used = parts(0, math.MaxInt, 1, 6, 0, math.MaxInt, 1, 2, 0, 32)
		}, api.ErrState},
	} {
		s := stocked()
		c.do(&s)
		if e := straw.CheckStore(farm(), s); e != c.want {
			t.Errorf("%s: %d, not %d", c.name, e, c.want)
		}
	}
}

// heaps is a store of the reeds with so many heaps of one load.
func heaps(n int) api.Store {
	s := api.Store{Last: []int{-1, -1, -1}, Given: []int{n, 0, 0}}
	for i := range n {
		s.Heaps = append(s.Heaps, api.Heap{Name: "h" + strconv.Itoa(i), Crop: api.CrReed, Stage: api.HpCut, Parts: parts(0, 1)})
	}
	return s
}

func TestCheckStoreHeaps(t *testing.T) {
	for n, want := range map[int]api.Errno{0: api.OK, 16: api.OK, 17: api.ErrState} {
		if e := straw.CheckStore(reeds(), heaps(n)); e != want {
			t.Error(n, e)
		}
	}
}

// The error of the farm comes first, in all functions that are given one; then that of the store.
func TestErrorsOfFarmAndStore(t *testing.T) {
	broken := farm()
	broken.Plots[1].Name = "fen"
	for _, c := range []struct {
		f    api.Farm
		s    api.Store
		want api.Errno
	}{
		{broken, stocked(), api.ErrTwice},
		{broken, api.Store{}, api.ErrTwice},
		{farm(), api.Store{}, api.ErrState},
	} {
		if e := straw.CheckStore(c.f, c.s); e != c.want {
			t.Error(e)
		}
		if s, e := straw.Do(c.f, c.s, api.Chore{}); e != c.want || !isZero(s) {
			t.Error(s, e)
		}
		if s, n, e := straw.Run(c.f, c.s, slices.Repeat([]api.Chore{{}}, api.MaxChores+1)); e != c.want || n != 0 || !isZero(s) {
			t.Error(s, n, e)
		}
		if l, e := straw.Ledger(c.f, c.s); e != c.want || l != nil {
			t.Error(l, e)
		}
		if l, e := straw.Bundle(c.f, c.s, "none", -1); e != c.want || l != nil {
			t.Error(l, e)
		}
	}
	if l, cost, found, e := straw.Choose(broken, api.Need{Reed: -1}); e != api.ErrTwice || l != nil || cost != 0 || found {
		t.Error(l, cost, found, e)
	}
	if text, e := straw.Print(broken); e != api.ErrTwice || text != "" {
		t.Error(text, e)
	}
}
