package straw_test

import (
	"math/rand"
	"slices"
	"testing"

	"thatch/api"
	"thatch/straw"
)

// A yard in which each load lies by itself: what the store says in parts is told here load by load.

type pile struct {
	name  string
	crop  api.Crop
	stage api.HeapStage
	per   int
	wet   api.Span
	loads []int // the field of each
}

type model struct {
	farm        api.Farm
	year        int
	last, given []int
	piles       []*pile
	used, waste []int
}

func newModel(f api.Farm) *model {
	return &model{farm: f, last: slices.Repeat([]int{-1}, len(f.Plots)), given: make([]int, len(f.Plots))}
}

func runs(loads []int) []api.Portion {
	var list []api.Portion
	for i, plot := range loads {
		if i == 0 || loads[i-1] != plot {
			list = append(list, api.Portion{Plot: plot})
		}
		list[len(list)-1].Loads++
	}
	return list
}

func (m *model) store() api.Store {
	s := api.Store{Year: m.year, Last: m.last, Given: m.given, Used: runs(m.used), Waste: runs(m.waste)}
	for _, p := range m.piles {
		s.Heaps = append(s.Heaps, api.Heap{Name: p.name, Crop: p.crop, Stage: p.stage, Per: p.per, Wet: p.wet, Parts: runs(p.loads)})
	}
	return s
}

func (m *model) pile(name string) *pile {
	for _, p := range m.piles {
		if p.name == name {
			return p
		}
	}
	return nil
}

func (m *model) sweep() {
	m.piles = slices.DeleteFunc(m.piles, func(p *pile) bool { return len(p.loads) == 0 })
}

func (m *model) count() int {
	n := len(m.used) + len(m.waste)
	for _, p := range m.piles {
		n += len(p.loads)
	}
	return n
}

// do does a chore all of whose fields its kind names.
func (m *model) do(a api.Chore) api.Errno {
	defer m.sweep()
	p, o := m.pile(a.Name), m.pile(a.Other)
	switch a.Kind {
	case api.ChYear:
		if m.year == 100 {
			return api.ErrLimit
		}
		m.year++
		return api.OK
	case api.ChCut:
		return m.cut(a, p)
	}
	if p == nil || a.Kind == api.ChJoin && o == nil {
		return api.ErrNone
	}
	switch a.Kind {
	case api.ChDry:
		return m.dry(a, p)
	case api.ChComb:
		if p.stage != api.HpCut || p.wet.High > m.farm.Dry {
			return api.ErrState
		}
		if a.Loads < 0 || a.Loads >= len(p.loads) {
			return api.ErrArg
		}
		p.stage = api.HpCombed
		m.waste = append(m.waste, p.loads[:a.Loads]...)
		p.loads = p.loads[a.Loads:]
	case api.ChJoin:
		return m.join(p, o)
	case api.ChBind:
		return m.bind(a, p, o)
	case api.ChUse:
		if p.stage != api.HpBound {
			return api.ErrState
		}
		if a.Loads < 1 || a.Loads*p.per > len(p.loads) {
			return api.ErrArg
		}
		m.used = append(m.used, p.loads[:a.Loads*p.per]...)
		p.loads = p.loads[a.Loads*p.per:]
	case api.ChRot:
		if p.wet.High <= m.farm.Dry {
			return api.ErrState
		}
		m.waste = append(m.waste, p.loads...)
		p.loads = nil
	}
	return api.OK
}

func (m *model) cut(a api.Chore, p *pile) api.Errno {
	if a.Plot < 0 || a.Plot >= len(m.farm.Plots) {
		return api.ErrNone
	}
	field := m.farm.Plots[a.Plot]
	if p != nil {
		return api.ErrTwice
	}
	if m.last[a.Plot] >= 0 && m.year < m.last[a.Plot]+field.Rest {
		return api.ErrState
	}
	if a.Loads < 1 || a.Loads < field.Size*field.Yield.Low || a.Loads > field.Size*field.Yield.High {
		return api.ErrArg
	}
	if len(m.piles) == 16 || m.count()+a.Loads > 100000 {
		return api.ErrLimit
	}
	m.last[a.Plot] = m.year
	m.given[a.Plot] += a.Loads
	m.piles = append(m.piles, &pile{a.Name, field.Crop, api.HpCut, 0, field.Wet, slices.Repeat([]int{a.Plot}, a.Loads)})
	return api.OK
}

func (m *model) dry(a api.Chore, p *pile) api.Errno {
	if p.stage == api.HpBound {
		return api.ErrState
	}
	if a.Days < 0 || a.Days > 365 || a.Rain.Low < 0 || a.Rain.High > 100 || a.Rain.Low > a.Rain.High {
		return api.ErrArg
	}
	p.wet.Low = min(1000, max(0, p.wet.Low-a.Days*20+a.Rain.Low*5))
	p.wet.High = min(1000, max(0, p.wet.High-a.Days*10+a.Rain.High*15))
	return api.OK
}

func (m *model) join(p, o *pile) api.Errno {
	if p == o {
		return api.ErrClash
	}
	if p.crop != o.crop || p.stage != o.stage || p.stage == api.HpBound {
		return api.ErrState
	}
	p.loads = append(p.loads, o.loads...)
	p.wet = span(min(p.wet.Low, o.wet.Low), max(p.wet.High, o.wet.High))
	o.loads = nil
	return api.OK
}

func (m *model) bind(a api.Chore, p, o *pile) api.Errno {
	if o != nil {
		return api.ErrTwice
	}
	if p.stage != api.HpCombed || p.wet.High > m.farm.Dry {
		return api.ErrState
	}
	if a.Per < 1 || a.Per > 100 {
		return api.ErrArg
	}
	if len(p.loads) < a.Per {
		return api.ErrScope
	}
	bound := len(p.loads) / a.Per * a.Per
	if len(m.piles) == 16 && bound < len(p.loads) {
		return api.ErrLimit
	}
	m.piles = append(m.piles, &pile{a.Other, p.crop, api.HpBound, a.Per, p.wet, slices.Clone(p.loads[:bound])})
	p.loads = p.loads[bound:]
	return api.OK
}

func TestAgainstModel(t *testing.T) {
	rng := rand.New(rand.NewSource(26))
	type outcome struct {
		kind api.ChoreKind
		e    api.Errno
	}
	seen := map[outcome]int{}
	for range 2000 {
		f := randomFarm(rng, 5)
		s, m := begin(t, f), newModel(f)
		for range 120 {
			a := randomChore(rng, f, s)
			next, e := straw.Do(f, s, a)
			if want := m.do(a); e != want {
				t.Fatal(f, s, a, e, want)
			}
			seen[outcome{a.Kind, e}]++
			if e != api.OK {
				continue
			}
			s = next
			if !sameStore(s, m.store()) {
				t.Fatalf("%v: %v\n%v, not\n%v", f, a, s, m.store())
			}
			checkBundles(t, f, s, m)
		}
	}
	for kind := api.ChYear; kind <= api.ChRot; kind++ {
		if seen[outcome{kind, api.OK}] < 100 {
			t.Error("chores done of kind", kind, seen[outcome{kind, api.OK}])
		}
	}
}

func checkBundles(t *testing.T, f api.Farm, s api.Store, m *model) {
	t.Helper()
	for _, p := range m.piles {
		if p.stage != api.HpBound {
			continue
		}
		for k := range len(p.loads) / p.per {
			want := runs(p.loads[k*p.per : (k+1)*p.per])
			if l, e := straw.Bundle(f, s, p.name, k); e != api.OK || !slices.Equal(l, want) {
				t.Fatal(s, p.name, k, l, e)
			}
		}
	}
}
