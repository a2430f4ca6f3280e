package straw_test

import (
	"math"
	"math/rand"
	"reflect"
	"strings"
	"testing"

	"thatch/api"
	"thatch/straw"
)

// P0.7, and the rules R1 to R11, for all functions of the package.

// asked is what all functions are given.
type asked struct {
	f    api.Farm
	s    api.Store
	l    []api.Chore
	heap string
	k    int
	n    api.Need
}

// answers calls every function, and returns the results of each, with its error behind them.
func answers(q asked) [][]any {
	a := api.Chore{}
	if len(q.l) > 0 {
		a = q.l[0]
	}
	check := straw.Check(q.f)
	fresh, freshError := straw.New(q.f)
	checkStore := straw.CheckStore(q.f, q.s)
	done, doError := straw.Do(q.f, q.s, a)
	after, count, runError := straw.Run(q.f, q.s, q.l)
	ledger, ledgerError := straw.Ledger(q.f, q.s)
	bundle, bundleError := straw.Bundle(q.f, q.s, q.heap, q.k)
	choice, cost, found, chooseError := straw.Choose(q.f, q.n)
	text, printError := straw.Print(q.f)
	return [][]any{
		{check},
		{fresh, freshError},
		{checkStore},
		{done, doError},
		{after, count, runError},
		{ledger, ledgerError},
		{bundle, bundleError},
		{choice, cost, found, chooseError},
		{text, printError},
	}
}

// runNumber is the place of Run among the answers: it alone tells something with an error.
const runNumber = 4

var strange = []int{math.MinInt, math.MinInt + 1, -1 << 62, -1 << 31, -2, -1, 0, 0, 1, 2, 3, 10, 16, 100, 101, 365, 1000, 1001, 100000, 100001, 1 << 31, 1 << 32, 1<<62 + 1, math.MaxInt}

func anyInt(rng *rand.Rand) int { return strange[rng.Intn(len(strange))] }

func anyName(rng *rand.Rand) string {
	names := []string{"", "a", "b", "c", "fen", "hill", "-", "A", "\xff", "ö", strings.Repeat("a", 17), strings.Repeat("a", 1<<16)}
	return names[rng.Intn(len(names))]
}

func anyParts(rng *rand.Rand, list []api.Portion) []api.Portion {
	switch {
	case rng.Intn(3) == 0 || len(list) == 0:
		return append(list, api.Portion{Plot: anyInt(rng), Loads: anyInt(rng)})
	case rng.Intn(2) == 0:
		list[rng.Intn(len(list))].Loads = anyInt(rng)
	default:
		list[rng.Intn(len(list))].Plot = anyInt(rng)
	}
	return list
}

func spoilFarm(rng *rand.Rand, f *api.Farm) {
	if len(f.Plots) == 0 || rng.Intn(8) == 0 {
		f.Dry = anyInt(rng)
		return
	}
	p := &f.Plots[rng.Intn(len(f.Plots))]
	if rng.Intn(8) == 0 {
		p.Name = anyName(rng)
		return
	}
	if rng.Intn(8) == 0 {
		p.Crop = api.Crop(anyInt(rng))
		return
	}
	fields := []*int{&p.Size, &p.Yield.Low, &p.Yield.High, &p.Rest, &p.Wet.Low, &p.Wet.High, &p.Cost}
	*fields[rng.Intn(len(fields))] = anyInt(rng)
}

func spoilStore(rng *rand.Rand, s *api.Store) {
	switch rng.Intn(8) {
	case 0:
		s.Year = anyInt(rng)
	case 1:
		s.Last = append(s.Last, anyInt(rng))[rng.Intn(2):]
	case 2:
		s.Given = append(s.Given, anyInt(rng))[rng.Intn(2):]
	case 3:
		s.Used = anyParts(rng, s.Used)
	case 4:
		s.Waste = anyParts(rng, s.Waste)
	default:
		if len(s.Heaps) == 0 {
			s.Heaps = append(s.Heaps, api.Heap{})
		}
		h := &s.Heaps[rng.Intn(len(s.Heaps))]
		switch rng.Intn(6) {
		case 0:
			h.Name = anyName(rng)
		case 1:
			h.Crop = api.Crop(anyInt(rng))
		case 2:
			h.Stage = api.HeapStage(anyInt(rng))
		case 3:
			h.Parts = anyParts(rng, h.Parts)
		case 4:
			h.Per = anyInt(rng)
		default:
			h.Wet = span(anyInt(rng), anyInt(rng))
		}
	}
}

func anyChore(rng *rand.Rand) api.Chore {
	a := api.Chore{Kind: api.ChoreKind(rng.Intn(10)), Name: anyName(rng)}
	fields := []*int{&a.Plot, &a.Loads, &a.Days, &a.Per, &a.Rain.Low, &a.Rain.High}
	for range rng.Intn(3) {
		*fields[rng.Intn(len(fields))] = anyInt(rng)
	}
	if rng.Intn(3) == 0 {
		a.Other = anyName(rng)
	}
	if rng.Intn(9) == 0 {
		a.Kind = api.ChoreKind(anyInt(rng))
	}
	return a
}

func anyAsked(t *testing.T, rng *rand.Rand) asked {
	q := asked{f: farm(), s: stocked(), heap: anyName(rng), k: anyInt(rng), n: randomNeed(rng)}
	if rng.Intn(2) == 0 {
		q.f = randomFarm(rng, 4)
		q.s = randomStore(t, rng, q.f)
	}
	for range rng.Intn(4) {
		q.l = append(q.l, anyChore(rng), randomChore(rng, q.f, q.s))
	}
	if rng.Intn(4) == 0 {
		q.n.Straw = anyInt(rng)
	}
	if rng.Intn(3) == 0 {
		spoilFarm(rng, &q.f)
	}
	for rng.Intn(3) == 0 {
		spoilStore(rng, &q.s)
	}
	return q
}

// isNothing reports whether a result is its zero value; an empty list is.
func isNothing(x any) bool {
	v := reflect.ValueOf(x)
	return v.IsZero() || v.Kind() == reflect.Slice && v.Len() == 0
}

func TestAny(t *testing.T) {
	rng := rand.New(rand.NewSource(33))
	farms, stores := map[any]int{}, map[any]int{}
	for range 8000 {
		q := anyAsked(t, rng)
		f, s := copyFarm(q.f), copyOf(q.s)
		list := answers(q)
		if again := answers(q); !reflect.DeepEqual(list, again) {
			t.Fatal("not the same again", q)
		}
		if !sameFarm(q.f, f) || !sameStore(q.s, s) {
			t.Fatal("changed", f, s)
		}
		farms[list[0][0]]++
		stores[list[2][0]]++
		for i, results := range list {
			last := len(results) - 1
			if list[0][0] != api.OK && results[last] != list[0][0] {
				t.Fatal("function", i, "has not the error of the farm", q)
			}
			if results[last] == api.OK || i == runNumber && list[2][0] == api.OK {
				continue
			}
			for _, x := range results[:last] {
				if !isNothing(x) {
					t.Fatal("with an error", i, x)
				}
			}
		}
	}
	for _, e := range []api.Errno{api.OK, api.ErrName, api.ErrTwice, api.ErrArg} {
		if farms[e] == 0 {
			t.Error("no farm with the error", e)
		}
	}
	if stores[api.OK] < 1000 || stores[api.ErrState] < 1000 {
		t.Error(stores)
	}
}

func TestManyOfAll(t *testing.T) {
	const many = 1 << 18
	if e := straw.Check(api.Farm{Plots: make([]api.Plot, many)}); e != api.ErrLimit {
		t.Error(e)
	}
	s := stocked()
	s.Heaps = make([]api.Heap, many)
	if e := straw.CheckStore(farm(), s); e != api.ErrState {
		t.Error(e)
	}
	s = stocked()
	s.Used = nil
	for range many {
		s.Used = append(s.Used, parts(0, api.MaxLoads, 1, api.MaxLoads)...)
	}
	s.Given = []int{30 + many*api.MaxLoads, 14 + many*api.MaxLoads}
	if e := straw.CheckStore(farm(), s); e != api.ErrState {
		t.Error(e)
	}
	s = stocked()
	s.Last, s.Given = make([]int, many), make([]int, many)
	if e := straw.CheckStore(farm(), s); e != api.ErrState {
		t.Error(e)
	}
	if s, n, e := straw.Run(farm(), stocked(), make([]api.Chore, many)); e != api.ErrLimit || n != 0 || !isZero(s) {
		t.Error(s, n, e)
	}
}

// A store may have very many parts.
func TestManyParts(t *testing.T) {
	f, s := reeds(), api.Store{Last: []int{-1, -1, -1}, Given: []int{50000, 50000, 0}}
	h := api.Heap{Name: "h", Crop: api.CrReed, Stage: api.HpCombed}
	for range 50000 {
		h.Parts = append(h.Parts, parts(0, 1, 1, 1)...)
	}
	s.Heaps = []api.Heap{h}
	s, n, e := straw.Run(f, s, []api.Chore{bind("h", "b", 10), use("b", 9999)})
	if e != api.OK || n != 2 || len(s.Heaps) != 1 || len(s.Heaps[0].Parts) != 10 || len(s.Used) != 99990 {
		t.Error(n, e)
	}
}

func TestAnyText(t *testing.T) {
	rng := rand.New(rand.NewSource(34))
	pieces := []string{"farm", "field", "reed", "heather", " ", " ", " ", "\n", "\n", "a", "0", "1", "9", "-", "10", "\xff", "\x00", "ü", farmText, fieldLine, "farm 8\n"}
	for range 20000 {
		text := farmText
		if rng.Intn(2) == 0 {
			text = ""
			for range rng.Intn(30) {
				text += pieces[rng.Intn(len(pieces))]
			}
		} else {
			i, j := rng.Intn(len(text)), rng.Intn(len(text))
			text = text[:min(i, j)] + pieces[rng.Intn(len(pieces))] + text[max(i, j):]
		}
		f, n, e := straw.Parse(text)
		if e != api.OK {
			if !sameFarm(f, api.Farm{}) || n < 0 || n > strings.Count(text, "\n")+1 {
				t.Fatalf("%q: %v %d %d", text, f, n, e)
			}
			continue
		}
		if s, e := straw.Print(f); e != api.OK || n != 0 || s != text && s != text+"\n" {
			t.Fatalf("%q: %q %d %d", text, s, n, e)
		}
	}
}

// spend changes all that a store has.
func spend(s api.Store) {
	wipe := func(list []api.Portion) {
		for i := range list {
			list[i] = api.Portion{Plot: -1, Loads: -1}
		}
		// What a list has room for is its own, too.
		_ = append(list, parts(-1, -1, -2, -2)...)
	}
	for i := range s.Heaps {
		wipe(s.Heaps[i].Parts)
		s.Heaps[i] = api.Heap{}
	}
	for i := range s.Last {
		s.Last[i], s.Given[i] = -9, -9
	}
	wipe(s.Used)
	wipe(s.Waste)
}

// What is returned shares no memory with the arguments, nor with what another call returns, nor within itself.
func TestNewMemory(t *testing.T) {
	f := reeds()
	s := mixed()
	s.Heaps[1].Stage, s.Heaps[1].Per = api.HpBound, 3
	s.Heaps[2].Stage = api.HpCombed
	want := copyOf(s)
	for _, a := range []api.Chore{year, cut(1, 5, "x"), dry("l", 1, 0, 0), comb("l", 0), bind("n", "x", 2), use("m", 2), rot("m")} {
		f := copyFarm(f)
		if a.Kind == api.ChRot {
			f.Dry = 0
		}
		for _, l := range [][]api.Chore{nil, {a}, {{}}, {a, {}}} {
			got, _, _ := straw.Run(f, s, l)
			spend(got)
		}
		got, e := straw.Do(f, s, a)
		if e != api.OK {
			t.Fatal(a, e)
		}
		whole := copyOf(got)
		for i := range got.Heaps {
			other := copyOf(got)
			spend(api.Store{Heaps: []api.Heap{got.Heaps[i]}})
			got.Heaps[i].Parts = other.Heaps[i].Parts
			if !sameStore(got, whole) {
				t.Error("one heap shares memory with another list", a, got)
			}
		}
		spend(got)
		if !sameStore(s, want) {
			t.Fatal(a, s)
		}
	}
	fresh, _ := straw.New(f)
	spend(fresh)
	bundle, _ := straw.Bundle(f, s, "m", 0)
	clear(bundle)
	if again, e := straw.New(f); e != api.OK || again.Last[0] != -1 || !sameStore(s, want) {
		t.Error(again, e, s)
	}
	choice, _, _, _ := straw.Choose(farm(), api.Need{Reed: 30, Straw: 10})
	clear(choice)
	chooseAll(t, farm(), []chosen{{api.Need{Reed: 30, Straw: 10}, []int{0, 1}, 70, true, api.OK}})
}

// A nil list and an empty one are the same.
func TestNilAndEmpty(t *testing.T) {
	empty := asked{
		f: api.Farm{Plots: []api.Plot{}},
		s: api.Store{Last: []int{}, Given: []int{}, Heaps: []api.Heap{}, Used: []api.Portion{}, Waste: []api.Portion{}},
		l: []api.Chore{},
	}
	list, other := answers(empty), answers(asked{})
	for i, results := range list {
		for k, x := range results {
			if s, ok := x.(api.Store); ok {
				if !sameStore(s, other[i][k].(api.Store)) {
					t.Error(i, x)
				}
			} else if !reflect.DeepEqual(x, other[i][k]) && !(isNothing(x) && isNothing(other[i][k])) {
				t.Error(i, x, other[i][k])
			}
		}
	}
	if e := straw.CheckStore(empty.f, empty.s); e != api.OK {
		t.Error(e)
	}
}
