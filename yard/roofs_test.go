package yard_test

import (
	"math"
	"math/rand"
	"slices"
	"testing"

	"thatch/api"
	"thatch/coat"
	"thatch/roof"
	"thatch/run"
	"thatch/straw"
	"thatch/yard"
)

// P10.2 (Thatch, Supply, Price, Judge), P10.7 (dry).

func at(x, y int) api.At { return api.At{X: x, Y: y} }

// face is a rectangle that rises by 1 for each 1 from its lower edge.
func face(name string, side api.Side, low, high api.At) api.Face {
	foot := map[api.Side]int{api.SiSouth: low.Y, api.SiEast: high.X, api.SiNorth: high.Y, api.SiWest: low.X}[side]
	return api.Face{Name: name, Side: side, Foot: foot, Rise: 1, Run: 1, Corners: []api.At{low, at(high.X, low.Y), high, at(low.X, high.Y)}}
}

// house is two faces that rise to a ridge, with a chimney in the first one.
func house() api.Roof {
	return api.Roof{
		Faces: []api.Face{face("s", api.SiSouth, at(0, 0), at(100, 40)), face("n", api.SiNorth, at(0, 40), at(100, 80))},
		Opens: []api.Open{{Name: "stack", Face: 0, Low: at(10, 10), High: at(20, 30)}},
	}
}

// trough is two faces that fall to each other, so that water stands between them, and one by itself.
func trough() api.Roof {
	return api.Roof{Faces: []api.Face{
		face("x", api.SiEast, at(200, 0), at(240, 40)),
		face("s", api.SiNorth, at(0, 0), at(100, 40)),
		face("n", api.SiSouth, at(0, 40), at(100, 80)),
	}}
}

// wide is the house with a face that is wider than what can be laid.
func wide(number int) api.Roof {
	r := house()
	r.Opens = nil
	r.Faces[number] = face(r.Faces[number].Name, api.SiSouth, at(1000, 0), at(1401, 20))
	return r
}

// rule is the custom of the document's examples, by which an area is laid.
func rule() api.Custom {
	return api.Custom{Layers: 2, Eave: api.Span{Low: -40}, Gauge: api.Span{Low: 10, High: 20}, Side: 5, Break: 10}
}

func bundles() api.Make { return api.Make{Width: 30, Length: 40, Thick: 100} }

// narrow lays a bundle for each 4 of a width, in one course up to a height of 99.
func narrow() (api.Custom, api.Make) {
	return api.Custom{Layers: 1, Gauge: api.Span{Low: 1, High: 100}}, api.Make{Width: 4, Length: 100, Thick: 7}
}

// strips is a roof of faces by themselves that have so many narrow bundles.
func strips(counts ...int) api.Roof {
	var r api.Roof
	for i, count := range counts {
		r.Faces = append(r.Faces, face("f"+string(rune('a'+i)), api.SiSouth, at(500*i, 0), at(500*i+4*count, 50)))
	}
	return r
}

func TestThatch(t *testing.T) {
	coats, need, count, e := yard.Thatch(house(), rule(), bundles())
	if e != api.OK || len(coats) != 2 || need != 100 || count != 2*18 {
		t.Fatal(coats, need, count, e)
	}
	for i, c := range coats {
		if len(c.Courses) != 4 || len(c.Courses[0].Bundles) != 4 || len(c.Courses[1].Bundles) != 5 {
			t.Error(i, c)
		}
		if b := c.Courses[1].Bundles[0]; c.Courses[1].V != 0 || b != (api.Bundle{U: -13, Width: 30, Length: 40, Thick: 100}) {
			t.Error(i, b)
		}
	}
	if coats, need, count, e := yard.Thatch(api.Roof{}, api.Custom{}, api.Make{}); e != api.OK || len(coats) != 0 || need != 0 || count != 0 {
		t.Error(coats, need, count, e)
	}
	if coats, need, count, e := yard.Thatch(trough(), rule(), bundles()); e != api.OK || len(coats) != 3 || need != 0 || count != 8+2*18 {
		t.Error(coats, need, count, e)
	}
	m, k := narrow()
	if coats, need, count, e := yard.Thatch(strips(1, 50, 96), m, k); e != api.OK || len(coats) != 3 || need != 7 || count != 147 {
		t.Error(coats, need, count, e)
	}
}

// thatchErrors are roofs that are not thatched.
func thatchErrors() map[string]struct {
	r    api.Roof
	m    api.Custom
	k    api.Make
	want api.Errno
} {
	twice, clash := house(), house()
	twice.Faces[1].Name = "s"
	clash.Faces[1].Corners[0].Y = 39
	none, far, close := rule(), rule(), rule()
	none.Layers = 0
	far.Eave.Low = -19
	close.Break = 13
	many, thin := narrow()
	type x = struct {
		r    api.Roof
		m    api.Custom
		k    api.Make
		want api.Errno
	}
	return map[string]x{
		"a roof that may not be":                           {twice, rule(), bundles(), api.ErrTwice},
		"a roof that may not be, whatever it is laid by":   {clash, none, api.Make{}, api.ErrClash},
		"an opening, but no face":                          {api.Roof{Opens: house().Opens}, rule(), bundles(), api.ErrNone},
		"a custom that may not be":                         {house(), none, bundles(), api.ErrArg},
		"a custom that may not be, the make neither":       {house(), none, api.Make{}, api.ErrArg},
		"a make that may not be":                           {house(), rule(), api.Make{}, api.ErrArg},
		"an eave that is too short":                        {house(), far, bundles(), api.ErrScope},
		"a break that is too wide":                         {house(), close, bundles(), api.ErrScope},
		"a first face that is too wide":                    {wide(0), none, bundles(), api.ErrScope},
		"a second face that is too wide":                   {wide(1), rule(), bundles(), api.ErrScope},
		"a second face too wide, the first one not laid":   {wide(1), none, bundles(), api.ErrArg},
		"too many bundles on the last face":                {strips(1, 96, 97), many, thin, api.ErrLimit},
		"too many bundles on a face, the next is too wide": {api.Roof{Faces: append(strips(97).Faces, wide(0).Faces[0])}, many, thin, api.ErrLimit},
	}
}

func TestThatchErrors(t *testing.T) {
	for name, c := range thatchErrors() {
		if coats, need, count, e := yard.Thatch(c.r, c.m, c.k); e != c.want || len(coats) != 0 || need != 0 || count != 0 {
			t.Error(name, coats, need, count, e)
		}
		// the errors of Thatch come first
		if fields, cost, found, e := yard.Supply(c.r, c.m, c.k, api.Farm{Dry: -1}, api.CrNone, 0); e != c.want || len(fields) != 0 || cost != 0 || found {
			t.Error(name, fields, cost, found, e)
		}
		if price, e := yard.Price(c.r, c.m, c.k, -1, -1, -1); e != c.want || price != 0 {
			t.Error(name, price, e)
		}
	}
}

// P10.7: in a roof that Thatch lays each face keeps the rules; if no water stands its need is the thickness of the bundles.
func TestThatchIsDry(t *testing.T) {
	rng := rand.New(rand.NewSource(171))
	seen := map[any]int{}
	for range 1500 {
		r, m, k := randomRoof(rng), randomRule(rng), randomMake(rng)
		coats, need, count, e := yard.Thatch(r, m, k)
		seen[e]++
		if e != api.OK {
			continue
		}
		all := 0
		for i, c := range coats {
			a, _ := roof.Lay(r, i)
			if b, e := coat.Broken(a, m, c); e != api.OK || b.Kind != api.BrNone {
				t.Fatal(r, m, k, i, b, e)
			}
			laid, _ := coat.Lay(a, m, k)
			if !coat.Same(c, laid) {
				t.Fatal(r, m, k, i, c, laid)
			}
			if wear, _, e := run.Leak(a, c); e != api.OK || wear != k.Thick {
				t.Fatal(r, m, k, i, wear, e)
			}
			piles, _ := coat.Piles(c)
			for _, p := range piles {
				all += p.Count
			}
		}
		want := k.Thick
		if stands, _ := roof.Stands(r); len(stands) > 0 {
			want = 0
		}
		if len(coats) != len(r.Faces) || need != want || count != all {
			t.Fatal(r, m, k, need, count)
		}
		seen[need == 0]++
	}
	if seen[api.OK] < 400 || seen[api.ErrScope] < 100 || seen[api.ErrLimit] < 15 || seen[true] < 50 {
		t.Error(seen)
	}
}

// farm is the fields of the document's examples, and two of heather.
func farm() api.Farm {
	f, _, _ := straw.Parse("farm 150\nfield fen reed 4 10 12 2 200 300 50\nfield hill straw 2 5 9 1 100 140 20\nfield moor heather 3 10 10 1 0 0 7\nfield heath heather 2 20 30 1 0 0 8\n")
	return f
}

func TestSupply(t *testing.T) {
	m, k := narrow()
	large := api.Farm{Plots: []api.Plot{{Name: "all", Crop: api.CrReed, Size: 100, Yield: api.Span{Low: 1000, High: 1000}, Rest: 1, Cost: 9}}}
	tens := slices.Repeat(list(96), 10)
	for _, c := range []struct {
		name   string
		r      api.Roof
		f      api.Farm
		crop   api.Crop
		per    int
		fields []int
		cost   int
		found  bool
		e      api.Errno
	}{
		{"reed", strips(10), farm(), api.CrReed, 4, list(0), 50, true, api.OK},
		{"more reed than there surely is", strips(10), farm(), api.CrReed, 5, nil, 0, false, api.OK},
		{"straw", strips(5, 5), farm(), api.CrStraw, 1, list(1), 20, true, api.OK},
		{"more straw than there surely is", strips(5, 6), farm(), api.CrStraw, 1, nil, 0, false, api.OK},
		{"heather of one field", strips(10), farm(), api.CrHeather, 3, list(2), 7, true, api.OK},
		{"heather of the other field", strips(10), farm(), api.CrHeather, 4, list(3), 8, true, api.OK},
		{"heather of both", strips(10), farm(), api.CrHeather, 7, list(2, 3), 15, true, api.OK},
		{"nothing", api.Roof{}, farm(), api.CrReed, 100, nil, 0, true, api.OK},
		{"no fields", strips(1), api.Farm{}, api.CrReed, 1, nil, 0, false, api.OK},
		{"no crop", strips(10), farm(), api.CrNone, 4, nil, 0, false, api.ErrArg},
		{"a crop that is none", strips(10), farm(), api.CrHeather + 1, 4, nil, 0, false, api.ErrArg},
		{"a crop below all", strips(10), farm(), -1, 4, nil, 0, false, api.ErrArg},
		{"per 0", strips(10), farm(), api.CrReed, 0, nil, 0, false, api.ErrArg},
		{"per -1", strips(10), farm(), api.CrReed, -1, nil, 0, false, api.ErrArg},
		{"per 100", strips(1), large, api.CrReed, 100, list(0), 9, true, api.OK},
		{"per 101", strips(1), large, api.CrReed, 101, nil, 0, false, api.ErrArg},
		{"the greatest per", strips(1), large, api.CrReed, math.MaxInt, nil, 0, false, api.ErrArg},
		{"100000 loads", strips(append(tens, 40)...), large, api.CrReed, 100, list(0), 9, true, api.OK},
		{"100100 loads", strips(append(tens, 41)...), large, api.CrReed, 100, nil, 0, false, api.ErrLimit},
		{"100100 loads, no fields", strips(append(tens, 41)...), api.Farm{}, api.CrReed, 100, nil, 0, false, api.ErrLimit},
		{"100100 loads of no crop", strips(append(tens, 41)...), large, api.CrNone, 100, nil, 0, false, api.ErrArg},
		{"a farm that may not be", strips(10), api.Farm{Plots: make([]api.Plot, 13)}, api.CrNone, 0, nil, 0, false, api.ErrLimit},
		{"a farm that may not be, 100100 loads", strips(append(tens, 41)...), api.Farm{Dry: -1}, api.CrReed, 100, nil, 0, false, api.ErrArg},
		{"a field that may not be", strips(10), api.Farm{Plots: make([]api.Plot, 1)}, api.CrReed, 4, nil, 0, false, api.ErrName},
	} {
		if fields, cost, found, e := yard.Supply(c.r, m, k, c.f, c.crop, c.per); !slices.Equal(fields, c.fields) || cost != c.cost || found != c.found || e != c.e {
			t.Error(c.name, fields, cost, found, e)
		}
	}
}

// P10.7: the fields that Supply names surely give all the loads that the bundles take, and no cheaper ones do.
func TestSupplyIsCheapest(t *testing.T) {
	rng := rand.New(rand.NewSource(172))
	m, k := narrow()
	seen := map[bool]int{}
	for range 1000 {
		f := farm()
		for i := range rng.Intn(5) {
			f.Plots = append(f.Plots, api.Plot{Name: "x" + string(rune('a'+i)), Crop: api.CrReed, Size: 1, Yield: api.Span{Low: rng.Intn(40), High: 50}, Rest: 1, Cost: rng.Intn(60)})
		}
		crop, per, count := api.Crop(between(rng, 1, 3)), between(rng, 1, 9), between(rng, 1, 9)
		fields, cost, found, e := yard.Supply(strips(count), m, k, f, crop, per)
		best := -1
		for set := range 1 << len(f.Plots) {
			loads, paid := 0, 0
			for i, p := range f.Plots {
				if set>>i&1 == 0 {
					continue
				}
				paid += p.Cost
				if p.Crop == crop {
					loads += p.Size * p.Yield.Low
				}
			}
			if loads >= per*count && (best < 0 || paid < best) {
				best = paid
			}
		}
		sum, loads := 0, 0
		for _, i := range fields {
			sum += f.Plots[i].Cost
			if f.Plots[i].Crop == crop {
				loads += f.Plots[i].Size * f.Plots[i].Yield.Low
			}
		}
		if e != api.OK || found != (best >= 0) || found && (cost != best || sum != best || loads < per*count) {
			t.Fatal(f, crop, per, count, fields, cost, found, e, best)
		}
		seen[found]++
	}
	if seen[true] < 200 || seen[false] < 200 {
		t.Error(seen)
	}
}

func TestPrice(t *testing.T) {
	// the house has 8000 - 400 and 8000 half squares, and 36 bundles
	for _, c := range []struct {
		fixed, square, bundle int
		want                  int
		e                     api.Errno
	}{
		{0, 0, 0, 0, api.OK},
		{1, 0, 0, 1, api.OK},
		{0, 1, 0, 15600, api.OK},
		{0, 0, 1, 36, api.OK},
		{7, 3, 5, 7 + 3*15600 + 5*36, api.OK},
		{1000, 1000, 1000, 1000 + 15600000 + 36000, api.OK},
		{1001, 0, 0, 0, api.ErrArg},
		{0, 1001, 0, 0, api.ErrArg},
		{0, 0, 1001, 0, api.ErrArg},
		{-1, 0, 0, 0, api.ErrArg},
		{0, -1, 0, 0, api.ErrArg},
		{0, 0, -1, 0, api.ErrArg},
		{math.MaxInt, math.MaxInt, math.MaxInt, 0, api.ErrArg},
		{math.MinInt, 0, 0, 0, api.ErrArg},
	} {
		if price, e := yard.Price(house(), rule(), bundles(), c.fixed, c.square, c.bundle); price != c.want || e != c.e {
			t.Error(c, price, e)
		}
	}
	if price, e := yard.Price(api.Roof{}, rule(), bundles(), 8, 9, 10); price != 8 || e != api.OK {
		t.Error(price, e)
	}
	m, k := narrow()
	if price, e := yard.Price(strips(1, 96), m, k, 0, 1, 1000); price != 2*50*(4+384)+97000 || e != api.OK {
		t.Error(price, e)
	}
}
