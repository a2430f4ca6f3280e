package mend_test

import (
	"testing"

	"thatch/api"
	"thatch/coat"
	"thatch/mend"
	"thatch/roof"
)

// P8.4 (Begin).

func square() api.Area {
	return api.Area{Outline: []api.Pt{{U: 0, V: 0}, {U: 40, V: 0}, {U: 40, V: 40}, {U: 0, V: 40}}}
}

// laid is a coat of a square, as thick as that everywhere, and thicker on its lower half.
func laid(thick int) api.Coat {
	return api.Coat{Courses: []api.Course{{Bundles: []api.Bundle{
		{Width: 40, Length: 40, Thick: thick},
		{Width: 40, Length: 20, Thick: 100},
	}}}}
}

func areas(list ...api.Area) []api.Area { return list }

func coats(list ...api.Coat) []api.Coat { return list }

func TestBegin(t *testing.T) {
	w := example()
	w.Slopes = append(w.Slopes, slope(1, 0, 1000, 3, 4, 5))
	for _, c := range []struct {
		coats []api.Coat
		now   []int
	}{
		{coats(laid(45), laid(45)), row(45, 45)},
		{coats(laid(60), laid(61)), row(60, 61)},
		{coats(laid(61), laid(60)), row(60, 60)},
		{coats(laid(1000), laid(999)), row(60, 999)},
		{coats(api.Coat{}, laid(1)), row(0, 1)},
		{coats(laid(29), api.Coat{}), row(29, 0)},
	} {
		want := copyWorks(w)
		want.Slopes[0].Now, want.Slopes[1].Now = c.now[0], c.now[1]
		if b, e := mend.Begin(w, areas(square(), square()), c.coats); e != api.OK || !sameWorks(b, want) {
			t.Error(c.coats, b, e)
		}
	}
	// an area of which only the lower half is asked
	half := api.Area{Outline: []api.Pt{{U: 0, V: 0}, {U: 40, V: 0}, {U: 40, V: 20}, {U: 0, V: 20}}}
	w.Slopes[0].Full = 500
	if b, e := mend.Begin(w, areas(half, square()), coats(laid(45), laid(45))); e != api.OK || b.Slopes[0].Now != 145 || b.Slopes[1].Now != 45 {
		t.Error(b, e)
	}
}

func TestBeginErrors(t *testing.T) {
	w := example()
	w.Slopes = append(w.Slopes, good())
	noArea := api.Area{}                                                      // ErrArg
	longArea := api.Area{Outline: make([]api.Pt, 13)}                         // ErrLimit
	twice := api.Area{Outline: []api.Pt{{U: 0, V: 0}, {U: 9, V: 9}, {}}}      // ErrTwice
	downward := api.Coat{Courses: []api.Course{{V: 5}, {V: 4}}}               // ErrState
	long := api.Coat{Courses: make([]api.Course, 25)}                         // ErrLimit
	bare := api.Coat{Courses: []api.Course{{Bundles: make([]api.Bundle, 1)}}} // ErrArg
	one, two := areas(square()), areas(square(), square())
	for _, c := range []struct {
		name  string
		w     api.Works
		areas []api.Area
		coats []api.Coat
		want  api.Errno
	}{
		{"works that may not be", changed(func(w *api.Works) { w.Slopes = make([]api.Slope, 5) }), nil, nil, api.ErrLimit},
		{"nothing", w, nil, nil, api.ErrArg},
		{"one area", w, one, coats(laid(9), laid(9)), api.ErrArg},
		{"three areas", w, append(one, two...), coats(laid(9), laid(9)), api.ErrArg},
		{"one coat", w, two, coats(laid(9)), api.ErrArg},
		{"three coats", w, two, coats(laid(9), laid(9), laid(9)), api.ErrArg},
		{"one of each", w, one, coats(laid(9)), api.ErrArg},
		{"too few areas, with an error", w, areas(longArea), coats(laid(9), laid(9)), api.ErrArg},
		{"too few coats, with an error", w, areas(twice, twice), coats(long), api.ErrArg},
		{"an area that is none", w, areas(square(), noArea), coats(laid(9), laid(9)), api.ErrArg},
		{"a long area", w, areas(square(), longArea), coats(laid(9), laid(9)), api.ErrLimit},
		{"a long coat", w, two, coats(long, laid(9)), api.ErrLimit},
		{"an area ahead of its coat", w, areas(twice, square()), coats(long, laid(9)), api.ErrTwice},
		{"a coat ahead of the next area", w, areas(square(), twice), coats(downward, laid(9)), api.ErrState},
		{"a coat ahead of the next coat", w, two, coats(downward, long), api.ErrState},
		{"the second coat", w, two, coats(laid(9), bare), api.ErrArg},
		{"all is well", w, two, coats(laid(9), laid(9)), api.OK},
	} {
		b, e := mend.Begin(c.w, c.areas, c.coats)
		if e != c.want || e != api.OK && !sameWorks(b, api.Works{}) {
			t.Error(c.name, b, e)
		}
	}
}

// What coat lays on the faces of a roof is what works begin with (P0.1).
func TestBeginOnRoof(t *testing.T) {
	r, _, e := roof.Parse("face s south 0 300 1 1 0 0 100 0 80 40 20 40\nface n north 80 300 1 1 100 80 0 80 20 40 80 40\nopen stack s 30 10 40 30\n")
	if e != api.OK {
		t.Fatal(e)
	}
	w := works(10, 500, 2, crafts(add(60, 8), strip(30)), slope(0, 150, 400, 40, 30, 20), slope(0, 150, 400, 40, 10))
	custom := api.Custom{Layers: 2, Eave: api.Span{Low: -40}, Gauge: api.Span{Low: 10, High: 20}, Side: 5, Break: 10}
	var faces []api.Area
	var thatch []api.Coat
	for face := range r.Faces {
		a, areaError := roof.Lay(r, face)
		c, coatError := coat.Lay(a, custom, api.Make{Width: 30, Length: 40, Thick: 100})
		if areaError != api.OK || coatError != api.OK {
			t.Fatal(face, areaError, coatError)
		}
		faces, thatch = append(faces, a), append(thatch, c)
	}
	b, e := mend.Begin(w, faces, thatch)
	if e != api.OK || mend.Check(b) != api.OK {
		t.Fatal(b, e)
	}
	for i, s := range b.Slopes {
		if least, _, _ := coat.Thinnest(faces[i], thatch[i]); s.Now != least || s.Now < 200 {
			t.Error(i, s.Now, least)
		}
	}
	p, cost, found := askCheapest(t, b)
	if _, sum, at := askFollow(t, b, p); !found || cost == 0 || sum != cost || at != -1 {
		t.Error(p, cost, found, sum, at)
	}
}
