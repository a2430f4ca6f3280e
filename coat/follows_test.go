package coat_test

import (
	"math/rand"
	"slices"
	"testing"

	"thatch/api"
	"thatch/coat"
	"thatch/roof"
)

// P3.6 (cover), what the coats of P3.3 have over them, and P0.1 (together).

func layersOf(t *testing.T, a api.Area, c api.Coat) (layers, thick int) {
	t.Helper()
	layers, _, e := coat.Least(a, c)
	thick, _, f := coat.Thinnest(a, c)
	if e != api.OK || f != api.OK {
		t.Fatal(a, c, e, f)
	}
	return layers, thick
}

func overOf(t *testing.T, c api.Coat, s api.Spot) []int {
	t.Helper()
	l, e := coat.Over(c, s)
	if e != api.OK {
		t.Fatal(c, s, e)
	}
	return l
}

// randomIn returns some spots of an area, many of them with whole coordinates, where sides often are.
func randomIn(t *testing.T, rng *rand.Rand, a api.Area, size int) []api.Spot {
	t.Helper()
	var list []api.Spot
	for range 60 {
		s := randomSpot(rng, size, between(rng, 1, 4))
		in, e := coat.In(a, s)
		if e != api.OK {
			t.Fatal(a, s, e)
		}
		if in {
			list = append(list, s)
		}
	}
	return list
}

func TestNoPointHasLess(t *testing.T) {
	rng := rand.New(rand.NewSource(39))
	for i := range 400 {
		size := []int{6, 12, 40, 400}[i%4]
		a, c := randomArea(t, rng, size), covered(rng, size, randomCoat(rng, size, 6))
		layers, thick := layersOf(t, a, c)
		for _, s := range randomIn(t, rng, a, size) {
			if l := overOf(t, c, s); len(l) < layers || thickOf(c, l) < thick {
				t.Fatal(a, c, s, l, layers, thick)
			}
		}
	}
}

// A row tells as much of a point as Over does, and nowhere less than Least.
func TestRowsAreOfPoints(t *testing.T) {
	rng := rand.New(rand.NewSource(40))
	for i := range 300 {
		size := []int{6, 12, 40, 400}[i%4]
		a, c := randomArea(t, rng, size), covered(rng, size, randomCoat(rng, size, 6))
		layers, thick := layersOf(t, a, c)
		v := randomPlace(rng, size, 3)
		row, e := coat.Row(a, c, v)
		if e != api.OK {
			t.Fatal(a, c, v, e)
		}
		for k, x := range row {
			if x.Layers < layers || x.Thick < thick || rat(x.From).Cmp(rat(x.To)) >= 0 || k > 0 && rat(row[k-1].To).Cmp(rat(x.From)) > 0 {
				t.Fatal(a, c, v, row)
			}
			for range 5 {
				// There may be finitely many points that have more, but not this one.
				d := between(rng, 1, 1000)
				den := x.From.Den + d*x.To.Den
				s := api.Spot{U: lowest(x.From.Num+d*x.To.Num, den), V: v}
				if l := overOf(t, c, s); len(l) < x.Layers || thickOf(c, l) < x.Thick {
					t.Fatal(a, c, s, l, x)
				}
			}
		}
	}
}

func TestABundleMore(t *testing.T) {
	rng := rand.New(rand.NewSource(41))
	for i := range 300 {
		size := []int{6, 12, 40}[i%3]
		a, c := randomArea(t, rng, size), covered(rng, size, randomCoat(rng, size, 6))
		d := copyCoat(c)
		k := &d.Courses[rng.Intn(len(d.Courses))]
		width := between(rng, size/2+1, size+3)
		more := bundle(between(rng, -4, size/2), width, size+3, between(rng, -2, 2), between(rng, 0, (width-1)/2), between(rng, 1, 9))
		k.Bundles = slices.Insert(k.Bundles, rng.Intn(len(k.Bundles)+1), more)
		layers, thick := layersOf(t, a, c)
		n, m := layersOf(t, a, d)
		if n < layers || n > layers+1 || m < thick || m > thick+more.Thick {
			t.Fatal(a, c, more, layers, n, thick, m)
		}
		for _, s := range randomIn(t, rng, a, size) {
			if was, is := len(overOf(t, c, s)), len(overOf(t, d, s)); is < was || is > was+1 {
				t.Fatal(c, more, s, was, is)
			}
		}
	}
}

func moved(r api.Ratio, by int) api.Ratio { return ratio(r.Num+by*r.Den, r.Den) }

func moveArea(a api.Area, by api.Pt) api.Area {
	a = copyArea(a)
	move := func(p *api.Pt) { *p = pt(p.U+by.U, p.V+by.V) }
	for i := range a.Outline {
		move(&a.Outline[i])
	}
	for i := range a.Holes {
		move(&a.Holes[i].From)
		move(&a.Holes[i].To)
	}
	return a
}

func moveCoat(c api.Coat, by api.Pt) api.Coat {
	c = copyCoat(c)
	for i := range c.Courses {
		c.Courses[i].V += by.V
		for k := range c.Courses[i].Bundles {
			c.Courses[i].Bundles[k].U += by.U
		}
	}
	return c
}

func TestMoved(t *testing.T) {
	rng := rand.New(rand.NewSource(42))
	for i := range 300 {
		size := []int{6, 12, 40, 90}[i%4]
		a, c := randomArea(t, rng, size), covered(rng, size, randomCoat(rng, size, 6))
		by := pt(between(rng, 0, 300), between(rng, 0, 300))
		b, d := moveArea(a, by), moveCoat(c, by)
		layers, thick := layersOf(t, a, c)
		if n, k := layersOf(t, b, d); n != layers || k != thick {
			t.Fatal(a, c, by, layers, n, thick, k)
		}
		for _, s := range randomIn(t, rng, rectangle(0, 0, size, size), size) {
			p := api.Spot{U: moved(s.U, by.U), V: moved(s.V, by.V)}
			in, _ := coat.In(a, s)
			if there, e := coat.In(b, p); e != api.OK || there != in || !slices.Equal(overOf(t, c, s), overOf(t, d, p)) {
				t.Fatal(a, c, by, s, in, there, e)
			}
		}
		v := randomPlace(rng, size, 5)
		row, _ := coat.Row(a, c, v)
		for k, x := range row {
			row[k].From, row[k].To = moved(x.From, by.U), moved(x.To, by.U)
		}
		isRow(t, b, d, moved(v, by.V), row...)
	}
}

// mirrored turns right into left, of all from 0 to size.
func mirrored(a api.Area, c api.Coat, size int) (api.Area, api.Coat) {
	a, c = copyArea(a), copyCoat(c)
	slices.Reverse(a.Outline)
	for i := range a.Outline {
		a.Outline[i].U = size - a.Outline[i].U
	}
	for i, h := range a.Holes {
		a.Holes[i] = box(size-h.To.U, h.From.V, size-h.From.U, h.To.V)
	}
	for _, k := range c.Courses {
		for i, b := range k.Bundles {
			k.Bundles[i].U, k.Bundles[i].Lean = size-b.U-b.Width, -b.Lean
		}
	}
	return a, c
}

func TestMirrored(t *testing.T) {
	rng := rand.New(rand.NewSource(43))
	for i := range 300 {
		size := []int{6, 12, 40, 90}[i%4]
		a, c := randomArea(t, rng, size), covered(rng, size, randomCoat(rng, size, 6))
		b, d := mirrored(a, c, size)
		layers, thick := layersOf(t, a, c)
		if n, k := layersOf(t, b, d); n != layers || k != thick {
			t.Fatal(a, c, layers, n, thick, k)
		}
		for _, s := range randomIn(t, rng, rectangle(0, 0, size, size), size) {
			p := api.Spot{U: lowest(size*s.U.Den-s.U.Num, s.U.Den), V: s.V}
			in, _ := coat.In(a, s)
			if there, e := coat.In(b, p); e != api.OK || there != in || !slices.Equal(overOf(t, c, s), overOf(t, d, p)) {
				t.Fatal(a, c, s, in, there, e)
			}
		}
		v := randomPlace(rng, size, 5)
		row, _ := coat.Row(a, c, v)
		slices.Reverse(row)
		for k, x := range row {
			row[k].From = lowest(size*x.To.Den-x.To.Num, x.To.Den)
			row[k].To = lowest(size*x.From.Den-x.From.Num, x.From.Den)
		}
		isRow(t, b, d, v, row...)
	}
}

// A bundle without a taper may be cut in two along its stems.
func TestCutAlongStems(t *testing.T) {
	rng := rand.New(rand.NewSource(44))
	cuts := 0
	for i := range 300 {
		size := []int{6, 12, 40, 90}[i%4]
		a, c := randomArea(t, rng, size), covered(rng, size, randomCoat(rng, size, 4))
		d := copyCoat(c)
		var lines []placed
		for k := range d.Courses {
			list := d.Courses[k].Bundles
			for n := len(list) - 1; n >= 0; n-- {
				if b := list[n]; b.Taper == 0 && b.Width > 1 {
					left, right := b, b
					left.Width = between(rng, 1, b.Width-1)
					right.U, right.Width = b.U+left.Width, b.Width-left.Width
					list = slices.Replace(list, n, n+1, left, right)
					lines = append(lines, placed{d.Courses[k].V, right})
				}
			}
			d.Courses[k].Bundles = list
		}
		cuts += len(lines)
		layers, thick := layersOf(t, a, c)
		if n, k := layersOf(t, a, d); n != layers || k != thick {
			t.Fatal(a, c, d, layers, n, thick, k)
		}
		for _, s := range randomIn(t, rng, a, size) {
			on := 0
			for _, x := range lines {
				if onLeftSide(x, s) {
					on++
				}
			}
			if was, is := len(overOf(t, c, s)), len(overOf(t, d, s)); is != was+on {
				t.Fatal(c, d, s, was, is, on)
			}
		}
		v := randomPlace(rng, size, 5)
		row, _ := coat.Row(a, c, v)
		isRow(t, a, d, v, row...)
	}
	if cuts < 300 {
		t.Error(cuts)
	}
}

func onLeftSide(x placed, s api.Spot) bool {
	v := rat(s.V)
	line := places([]segment{{pt(x.b.U, x.v), pt(x.b.U+x.b.Lean, x.v+x.b.Length)}}, v)
	return len(line) == 1 && line[0].Cmp(rat(s.U)) == 0
}

// Over a point lie, of a worn coat, just the bundles that lie there and are thick enough.
func TestWornIsThickEnough(t *testing.T) {
	rng := rand.New(rand.NewSource(45))
	for range 200 {
		size := between(rng, 6, 40)
		a, c := randomArea(t, rng, size), covered(rng, size, randomCoat(rng, size, 6))
		take := between(rng, 0, 4)
		w, e := coat.Worn(c, take)
		if e != api.OK || coat.Check(w) != api.OK {
			t.Fatal(c, take, e)
		}
		all, left := allBundles(c), allBundles(w)
		for _, s := range randomIn(t, rng, a, size) {
			var want []api.Bundle
			for _, i := range overOf(t, c, s) {
				if b := all[i].b; b.Thick > take {
					b.Thick -= take
					want = append(want, b)
				}
			}
			var got []api.Bundle
			for _, i := range overOf(t, w, s) {
				got = append(got, left[i].b)
			}
			if !slices.Equal(got, want) {
				t.Fatal(c, take, s, got, want)
			}
		}
	}
}

// A face of a roof is an area that can be laid.
func TestFacesAreLaid(t *testing.T) {
	r, _, e := roof.Parse("face s south 0 300 1 1 0 0 60 0 40 20 20 20\nface e east 60 300 1 1 60 0 60 40 40 20\n" +
		"face n north 40 300 1 1 60 40 0 40 20 20 40 20\nface w west 0 300 1 1 0 40 0 0 20 20\n" +
		"open a s 25 5 35 15\nopen b e 50 15 58 25\nopen c n 25 25 28 35\nopen d n 29 25 31 30\nopen f w 3 15 10 20\n")
	if e != api.OK {
		t.Fatal(e)
	}
	for i := range r.Faces {
		a, e := roof.Lay(r, i)
		if f := coat.CheckArea(a); e != api.OK || f != api.OK || len(a.Holes) == 0 {
			t.Fatal(i, a, e, f)
		}
		c, e := coat.Lay(a, layCustom(), layMake())
		if e != api.OK {
			t.Fatal(i, a, e)
		}
		isBroken(t, a, layCustom(), c, api.Breach{})
	}
}
