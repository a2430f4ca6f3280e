package yard_test

import (
	"math/rand"
	"slices"
	"testing"

	"thatch/api"
	"thatch/coat"
	"thatch/run"
	"thatch/yard"
)

// P10.2 (Judge).

func pt(u, v int) api.Pt { return api.Pt{U: u, V: v} }

func square() api.Area {
	return api.Area{Outline: []api.Pt{pt(0, 0), pt(40, 0), pt(40, 40), pt(0, 40)}}
}

func bundle(u, width, length, thick int) api.Bundle {
	return api.Bundle{U: u, Width: width, Length: length, Thick: thick}
}

func course(v int, list ...api.Bundle) api.Course { return api.Course{V: v, Bundles: list} }

func coatOf(list ...api.Course) api.Coat { return api.Coat{Courses: list} }

// pair is the coat of the examples of chapter 5.
func pair() api.Coat {
	return coatOf(course(0, bundle(0, 40, 40, 100)), course(20, bundle(0, 40, 20, 50)))
}

// single is one course of so many bundles that are side by side.
func single(count, thick int) api.Coat {
	k := course(0)
	for i := range count {
		k.Bundles = append(k.Bundles, bundle(40/count*i, 40/count, 50, thick))
	}
	return coatOf(k)
}

// simple is a custom that asks for one layer, and for little else.
func simple() api.Custom {
	return api.Custom{Layers: 1, Eave: api.Span{Low: -40}, Gauge: api.Span{Low: 1, High: 40}}
}

func breach(kind api.BreachKind, course, bundle int) api.Breach {
	return api.Breach{Kind: kind, Course: course, Bundle: bundle}
}

func sheet(b api.Breach, need, count, rank int) api.Sheet {
	return api.Sheet{Breach: b, Need: need, Count: count, Rank: rank}
}

func TestJudge(t *testing.T) {
	kept := api.Breach{}
	laid, _ := coat.Lay(square(), rule(), bundles())
	low := coatOf(course(-41, bundle(0, 40, 100, 300)))
	crooked := coatOf(course(0, bundle(-5, 50, 50, 300)))
	crooked.Courses[0].Bundles[0].Lean = 1
	for i, c := range []struct {
		m     api.Custom
		coats []api.Coat
		want  []api.Sheet
	}{
		{simple(), nil, nil},
		{simple(), []api.Coat{{}}, []api.Sheet{sheet(breach(api.BrLayers, 0, 0), 0, 0, 1)}},
		{
			rule(), []api.Coat{pair(), laid, {}, pair()},
			[]api.Sheet{sheet(breach(api.BrBreak, 1, 0), 100, 2, 2), sheet(kept, 100, 8, 1), sheet(breach(api.BrLayers, 0, 0), 0, 0, 4), sheet(breach(api.BrBreak, 1, 0), 100, 2, 2)},
		},
		// one that keeps the rules is better than a thicker one that does not
		{
			simple(), []api.Coat{low, single(1, 5), crooked, single(4, 6)},
			[]api.Sheet{sheet(breach(api.BrEave, 0, 0), 300, 1, 3), sheet(kept, 5, 1, 2), sheet(breach(api.BrLean, 0, 0), 300, 1, 3), sheet(kept, 6, 4, 1)},
		},
		// fewer bundles, only if as much wear is needed; the order does not matter
		{
			simple(), []api.Coat{single(4, 7), single(8, 8), single(2, 7), single(4, 7), single(1, 6), single(2, 7)},
			[]api.Sheet{sheet(kept, 7, 4, 4), sheet(kept, 8, 8, 1), sheet(kept, 7, 2, 2), sheet(kept, 7, 4, 4), sheet(kept, 6, 1, 6), sheet(kept, 7, 2, 2)},
		},
	} {
		if sheets, e := yard.Judge(square(), c.m, c.coats); e != api.OK || !slices.Equal(sheets, c.want) {
			t.Error(i, sheets, e)
		}
	}
	if sheets, e := yard.Judge(square(), simple(), make([]api.Coat, 12)); e != api.OK || len(sheets) != 12 || sheets[11].Rank != 1 {
		t.Error(sheets, e)
	}
}

func TestJudgeErrors(t *testing.T) {
	none := simple()
	none.Layers = 0
	noArea := api.Area{Outline: make([]api.Pt, 13)}
	downward, long, bare := coatOf(course(5), course(4)), api.Coat{Courses: make([]api.Course, 25)}, coatOf(course(0, api.Bundle{}))
	for i, c := range []struct {
		a     api.Area
		m     api.Custom
		coats []api.Coat
		want  api.Errno
	}{
		{noArea, none, make([]api.Coat, 13), api.ErrLimit},
		{api.Area{}, none, make([]api.Coat, 13), api.ErrArg},
		{api.Area{Outline: []api.Pt{pt(0, 0), pt(9, 9), pt(0, 0)}}, none, nil, api.ErrTwice},
		{square(), none, nil, api.ErrArg},
		{square(), none, make([]api.Coat, 13), api.ErrArg},
		{square(), none, []api.Coat{downward}, api.ErrArg},
		{square(), simple(), make([]api.Coat, 13), api.ErrLimit},
		{square(), simple(), append([]api.Coat{downward}, make([]api.Coat, 12)...), api.ErrLimit},
		{square(), simple(), []api.Coat{downward, long, bare}, api.ErrState},
		{square(), simple(), []api.Coat{pair(), long, downward}, api.ErrLimit},
		{square(), simple(), []api.Coat{pair(), {}, bare}, api.ErrArg},
	} {
		if sheets, e := yard.Judge(c.a, c.m, c.coats); e != c.want || len(sheets) != 0 {
			t.Error(i, sheets, e)
		}
	}
}

// ranks tells the ranks of sheets by putting them into an order, the best one first.
func ranks(sheets []api.Sheet) []int {
	value := func(s api.Sheet) int {
		v := s.Need*1000 + (999 - s.Count)
		if s.Breach.Kind == api.BrNone {
			v += 1 << 40
		}
		return v
	}
	var values, list []int
	for _, s := range sheets {
		values = append(values, -value(s))
	}
	slices.Sort(values)
	for _, s := range sheets {
		list = append(list, 1+slices.Index(values, -value(s)))
	}
	return list
}

func TestJudgeRanked(t *testing.T) {
	rng := rand.New(rand.NewSource(173))
	kept := 0
	for range 500 {
		var coats []api.Coat
		for range rng.Intn(api.MaxSheets + 1) {
			c := single([]int{1, 2, 4, 8}[rng.Intn(4)], between(rng, 1, 3))
			if rng.Intn(3) == 0 {
				c.Courses[0].V = between(rng, -2, 2)
			}
			if rng.Intn(3) == 0 {
				c.Courses = append(c.Courses, course(20, bundle(0, 40, 20, 9)))
			}
			coats = append(coats, c)
		}
		sheets, e := yard.Judge(square(), simple(), coats)
		if e != api.OK || len(sheets) != len(coats) {
			t.Fatal(coats, sheets, e)
		}
		want := ranks(sheets)
		for i, s := range sheets {
			b, _ := coat.Broken(square(), simple(), coats[i])
			need, _, _ := run.Leak(square(), coats[i])
			count := 0
			for _, k := range coats[i].Courses {
				count += len(k.Bundles)
			}
			if s != (api.Sheet{Breach: b, Need: need, Count: count, Rank: want[i]}) {
				t.Fatal(coats, sheets, want)
			}
			if b.Kind == api.BrNone {
				kept++
			}
		}
	}
	if kept < 500 {
		t.Error(kept)
	}
}
