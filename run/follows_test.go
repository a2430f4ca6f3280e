package run_test

import (
	"math/rand"
	"slices"
	"testing"

	"thatch/api"
	"thatch/coat"
	"thatch/roof"
	"thatch/run"
)

// P5.5 (dry), P5.6 (proved), P5.7 (coats), P5.8 (years), and what the chapter says of them together with P0.1 and P0.2.

// drops is water that falls in many places, and goes on from each bundle over many points of its butt. It asks package coat alone.
type drops struct {
	t     *testing.T
	rng   *rand.Rand
	a     api.Area
	c     api.Coat
	wear  int
	wet   []int
	leaks bool
}

func (d *drops) isIn(s api.Spot) bool {
	in, e := coat.In(d.a, s)
	if e != api.OK {
		d.t.Fatal(d.a, s, e)
	}
	return in
}

// fall lets a drop fall on a spot, through the bundles below the number that are worn through, down to the first one that is not.
func (d *drops) fall(s api.Spot, below int) {
	over, e := coat.Over(d.c, s)
	if e != api.OK {
		d.t.Fatal(d.c, s, e)
	}
	for _, number := range slices.Backward(over) {
		if number >= below {
			continue
		}
		d.comeTo(number)
		if allBundles(d.c)[number].b.Thick > d.wear {
			return
		}
	}
	d.leaks = true
}

func (d *drops) comeTo(number int) {
	if slices.Contains(d.wet, number) {
		return
	}
	d.wet = append(d.wet, number)
	x := allBundles(d.c)[number]
	for range 12 {
		u := anyOf(d.rng, x.b.Width, 997)
		s := api.Spot{U: api.Ratio{Num: u.Num + x.b.U*997, Den: 997}, V: api.Ratio{Num: x.v, Den: 1}}
		if s.U.Num >= 0 && s.U.Num <= api.MaxPlace*997 && x.v > 0 && x.v <= api.MaxPlace && d.isStrictlyIn(s) {
			d.fall(s, number)
		}
	}
}

// isStrictlyIn reports whether what is just above a spot and just below it is in the area. The spot is on no side that is not horizontal.
func (d *drops) isStrictlyIn(s api.Spot) bool {
	above, below := s, s
	above.V = api.Ratio{Num: s.V.Num*150001 + 1, Den: 150001}
	below.V = api.Ratio{Num: s.V.Num*150001 - 1, Den: 150001}
	return above.V.Num <= api.MaxPlace*150001 && d.isIn(above) && d.isIn(below)
}

// pour lets drops fall on the whole area.
func (d *drops) pour(size int) {
	for range 150 {
		if s := anySpot(d.rng, size); d.isIn(s) {
			d.fall(s, api.MaxBundles)
		}
	}
}

func TestNoDropComesToABatten(t *testing.T) {
	rng := rand.New(rand.NewSource(78))
	dry, leaked, alike := 0, 0, 0
	for i := range 400 {
		size := []int{8, 15, 40, 90}[i%4]
		a, c := randomArea(rng, size), randomCoat(rng, size, 4)
		need, _ := leak(t, a, c)
		for _, wear := range []int{0, need - 1, need} {
			if wear < 0 {
				continue
			}
			d := drops{t: t, rng: rng, a: a, c: c, wear: wear}
			d.pour(size)
			slices.Sort(d.wet)
			bundles, leaks := wet(t, a, c, wear)
			if d.leaks && (wear < need || !leaks) || slices.ContainsFunc(d.wet, func(n int) bool { return !slices.Contains(bundles, n) }) {
				t.Fatal(a, c, need, wear, d.wet, d.leaks, bundles)
			}
			if wear < need {
				dry++
			} else if d.leaks {
				leaked++
			}
			if slices.Equal(d.wet, bundles) {
				alike++
			}
		}
	}
	// So many drops find nearly all that is wet.
	if dry < 400 || leaked < 300 || alike < 700 {
		t.Error(dry, leaked, alike)
	}
}

func TestNeedsProveWhatLeakSays(t *testing.T) {
	rng := rand.New(rand.NewSource(79))
	right := 0
	for i := range 500 {
		size := []int{8, 15, 40, 90}[i%4]
		a, c := randomArea(rng, size), randomCoat(rng, size, 3)
		need, way := leak(t, a, c)
		l := needs(t, a, c)
		isProof(t, a, c, need, true, l...)
		isProof(t, a, c, need+1, false, l...)
		if !isWay(t, a, c, need, way) {
			t.Fatal(a, c, need, way)
		}
		for range 20 {
			guess := slices.Clone(l)
			for k := range guess {
				guess[k] = max(-1, guess[k]+between(rng, -3, 1))
			}
			if wear := between(rng, 0, need+2); proves(t, a, c, wear, guess) {
				right++
				if wear > need {
					t.Fatal("proved what is wrong", a, c, wear, guess)
				}
			}
		}
	}
	if right < 500 {
		t.Error(right)
	}
}

// isWay reports whether water may go through these bundles to a batten with a wear.
func isWay(t *testing.T, a api.Area, c api.Coat, wear int, way []int) bool {
	t.Helper()
	list := links(t, a, c)
	from := rain
	for _, to := range append(slices.Clone(way), batten) {
		if !slices.ContainsFunc(list, func(l api.Link) bool { return l.From == from && l.To == to && l.Wear <= wear }) {
			return false
		}
		from = to
	}
	return true
}

func TestThickestBundleOverAnyPoint(t *testing.T) {
	rng := rand.New(rand.NewSource(80))
	bare, covered := 0, 0
	for i := range 400 {
		size := []int{8, 15, 40, 90}[i%4]
		a, c := randomArea(rng, size), randomCoat(rng, size, 4)
		need, _ := leak(t, a, c)
		if n, _, e := coat.Least(a, c); e != api.OK {
			t.Fatal(a, c, e)
		} else if n == 0 {
			bare++
			if need != 0 {
				t.Fatal("nothing lies over a point", a, c, need)
			}
		}
		for range 50 {
			s := anySpot(rng, size)
			if rng.Intn(2) == 0 {
				s = api.Spot{U: api.Ratio{Num: rng.Intn(size + 1), Den: 1}, V: api.Ratio{Num: rng.Intn(size + 1), Den: 1}}
			}
			if in, _ := coat.In(a, s); !in {
				continue
			}
			thickest := 0
			over, _ := coat.Over(c, s)
			for _, number := range over {
				thickest = max(thickest, allBundles(c)[number].b.Thick)
			}
			if need > thickest {
				t.Fatal(a, c, s, over, need)
			}
			if need > 0 {
				covered++
			}
		}
	}
	if bare < 50 || covered < 1000 {
		t.Error(bare, covered)
	}
}

func TestLaidCoats(t *testing.T) {
	rng := rand.New(rand.NewSource(81))
	count := 0
	for range 4000 {
		size := between(rng, 20, 150)
		a := randomArea(rng, size)
		m := api.Custom{
			Layers: between(rng, 1, 3), Eave: api.Span{Low: -between(rng, 0, 200), High: 0},
			Gauge: api.Span{Low: between(rng, 1, 20), High: between(rng, 20, 60)}, Side: rng.Intn(20), Break: rng.Intn(10),
		}
		width := between(rng, 1, api.MaxWidth)
		k := api.Make{Width: width, Length: between(rng, 20, api.MaxLength), Taper: between(rng, 0, (width-1)/2) * rng.Intn(2), Thick: between(rng, 1, api.MaxThick)}
		c, e := coat.Lay(a, m, k)
		if e != api.OK {
			continue
		}
		count++
		if need, _ := leak(t, a, c); need != k.Thick {
			t.Fatal(a, m, k, need)
		}
	}
	if count < 200 {
		t.Error(count)
	}
}

// withMore returns a coat with a bundle more at its end: in its last course, or in one above it.
func withMore(rng *rand.Rand, c api.Coat, b api.Bundle) api.Coat {
	c = copyCoat(c)
	last := len(c.Courses) - 1
	if last < 0 {
		return courses(course(between(rng, -5, 20), b))
	}
	if rng.Intn(2) == 0 {
		c.Courses[last].Bundles = append(c.Courses[last].Bundles, b)
	} else {
		c.Courses = append(c.Courses, course(c.Courses[last].V+between(rng, 1, 5), b))
	}
	return c
}

func TestABundleMore(t *testing.T) {
	rng := rand.New(rand.NewSource(82))
	more := 0
	for i := range 800 {
		size := []int{8, 15, 40, 90}[i%4]
		a, c := randomArea(rng, size), randomCoat(rng, size, 3)
		b := randomBundle(rng, size)
		if rng.Intn(2) == 0 {
			b = bundle(0, size, size, 9)
		}
		d := withMore(rng, c, b)
		was, _ := leak(t, a, c)
		is, _ := leak(t, a, d)
		if is < was {
			t.Fatal(a, c, d, was, is)
		}
		if is > was {
			more++
		}
	}
	if more < 5 {
		t.Error(more)
	}
}

func TestWornCoats(t *testing.T) {
	rng := rand.New(rand.NewSource(83))
	justSo := 0
	for i := range 800 {
		size := []int{8, 15, 40, 90}[i%4]
		a, c := randomArea(rng, size), randomCoat(rng, size, 3)
		take := between(rng, 0, 9)
		d, e := coat.Worn(c, take)
		if e != api.OK {
			t.Fatal(c, take, e)
		}
		was, _ := leak(t, a, c)
		is, _ := leak(t, a, d)
		if is < was-take {
			t.Fatal(a, c, take, was, is)
		}
		if is == was-take {
			justSo++
		}
	}
	if justSo < 100 {
		t.Error(justSo)
	}
}

func mirrored(a api.Area, c api.Coat, width int) (api.Area, api.Coat) {
	a, c = copyArea(a), copyCoat(c)
	for i, p := range a.Outline {
		a.Outline[i] = pt(width-p.U, p.V)
	}
	slices.Reverse(a.Outline)
	for i, h := range a.Holes {
		a.Holes[i] = box(width-h.To.U, h.From.V, width-h.From.U, h.To.V)
	}
	for _, k := range c.Courses {
		for i, b := range k.Bundles {
			k.Bundles[i].U, k.Bundles[i].Lean = width-b.U-b.Width, -b.Lean
		}
	}
	return a, c
}

func TestMirrored(t *testing.T) {
	rng := rand.New(rand.NewSource(84))
	for i := range 500 {
		size := []int{8, 15, 40, 90}[i%4]
		a, c := randomArea(rng, size), randomCoat(rng, size, 4)
		b, d := mirrored(a, c, size)
		isLinks(t, b, d, links(t, a, c)...)
		if t.Failed() {
			t.FailNow()
		}
	}
}

func TestYears(t *testing.T) {
	rng := rand.New(rand.NewSource(85))
	counts := map[string]int{}
	for i := range 800 {
		size := []int{8, 15, 40}[i%3]
		a, c := randomArea(rng, size), randomCoat(rng, size, 3)
		var takes []int
		for range between(rng, 1, 5) {
			takes = append(takes, max(0, between(rng, -3, 4)))
		}
		need, _ := leak(t, a, c)
		years := lasts(t, a, c, takes...)
		// wearAfter is what so many years take.
		wearAfter := func(years int) int {
			wear := 0
			for year := range years {
				wear += takes[year%len(takes)]
			}
			return wear
		}
		switch {
		case need == 0:
			counts["never dry"]++
			if years != -1 {
				t.Fatal(a, c, takes, years)
			}
		case years == 1000:
			counts["long"]++
			if wearAfter(1000) >= need {
				t.Fatal(a, c, takes, need)
			}
		default:
			counts["some"]++
			if years < 0 || wearAfter(years) >= need || wearAfter(years+1) < need {
				t.Fatal(a, c, takes, years, need)
			}
		}
	}
	if counts["never dry"] < 50 || counts["long"] < 10 || counts["some"] < 100 {
		t.Error(counts)
	}
}

// Faces of a roof are areas, and coats that are laid on them are coats of a house (P0.1).
func TestHouseOfLaidCoats(t *testing.T) {
	r := house()
	m := api.Custom{Layers: 2, Eave: api.Span{Low: -40}, Gauge: api.Span{Low: 10, High: 20}, Side: 5, Break: 10}
	var coats []api.Coat
	for face := range r.Faces {
		a, e := roof.Lay(r, face)
		if e != api.OK {
			t.Fatal(e)
		}
		c, e := coat.Lay(a, m, api.Make{Width: 30, Length: 40, Thick: 100 + face})
		if e != api.OK {
			t.Fatal(e)
		}
		coats = append(coats, c)
	}
	isHouse(t, r, coats, 100, 101, 102)
	// What is laid on one face is laid on another one as well, and worn alike.
	worn, e := coat.Worn(coats[2], 30)
	if e != api.OK {
		t.Fatal(e)
	}
	isHouse(t, r, []api.Coat{worn, coats[0], worn}, 72, 100, 72)
	if _, e := run.House(r, coats[:2]); e != api.ErrArg {
		t.Error(e)
	}
}
