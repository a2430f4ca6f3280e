package coat_test

import (
	"math"
	"math/rand"
	"testing"

	"thatch/api"
	"thatch/coat"
)

// P3.4 (rules) and P3.7 (laid).

func TestCheckCustom(t *testing.T) {
	good := api.Custom{Layers: 2, Eave: span(-40, 0), Gauge: span(10, 20), Side: 5, Break: 10, Lean: 3}
	for _, m := range []api.Custom{
		good,
		{Layers: 1, Gauge: span(1, 1)},
		{Layers: 96, Eave: span(-400, -400), Gauge: span(100, 100), Side: 100, Break: 100, Lean: 50},
		{Layers: 96, Eave: span(-400, 0), Gauge: span(1, 100), Side: 100, Break: 100, Lean: 50},
	} {
		if e := coat.CheckCustom(m); e != api.OK {
			t.Error(m, e)
		}
	}
	if e := coat.CheckCustom(api.Custom{}); e != api.ErrArg {
		t.Error(e)
	}
	for i := range 8 {
		for _, n := range append(strange, 96, 97, -400, -401, -41, 20, 21, 9) {
			m := good
			*[]*int{&m.Layers, &m.Eave.Low, &m.Eave.High, &m.Gauge.Low, &m.Gauge.High, &m.Side, &m.Break, &m.Lean}[i] = n
			low := []int{1, -400, -40, 1, 10, 0, 0, 0}[i]
			high := []int{96, 0, 0, 20, 100, 100, 100, 50}[i]
			want := api.OK
			if n < low || n > high {
				want = api.ErrArg
			}
			if e := coat.CheckCustom(m); e != want {
				t.Error(m, e)
			}
		}
	}
}

// exampleCustom is one that the document's example keeps.
func exampleCustom() api.Custom {
	return api.Custom{Layers: 1, Gauge: span(20, 20), Side: 5, Break: 5}
}

func breach(kind api.BreachKind, course, bundle int) api.Breach {
	return api.Breach{Kind: kind, Course: course, Bundle: bundle}
}

func isBroken(t *testing.T, a api.Area, m api.Custom, c api.Coat, want api.Breach) {
	t.Helper()
	if b, e := coat.Broken(a, m, c); e != api.OK || b != want {
		t.Error(m, c, b, e, want)
	}
}

func TestBrokenExample(t *testing.T) {
	for _, x := range []struct {
		change func(m *api.Custom)
		want   api.Breach
	}{
		{func(m *api.Custom) {}, api.Breach{}},
		{func(m *api.Custom) { m.Eave = span(-400, 0) }, api.Breach{}},
		{func(m *api.Custom) { m.Eave = span(-400, -1) }, breach(api.BrEave, 0, 0)},
		{func(m *api.Custom) { m.Gauge = span(1, 20) }, api.Breach{}},
		{func(m *api.Custom) { m.Gauge = span(20, 100) }, api.Breach{}},
		{func(m *api.Custom) { m.Gauge = span(1, 19) }, breach(api.BrGauge, 1, 0)},
		{func(m *api.Custom) { m.Gauge = span(21, 100) }, breach(api.BrGauge, 1, 0)},
		{func(m *api.Custom) { m.Side = 10 }, api.Breach{}},
		{func(m *api.Custom) { m.Side = 11 }, breach(api.BrSide, 0, 1)},
		{func(m *api.Custom) { m.Break = 0 }, api.Breach{}},
		{func(m *api.Custom) { m.Break = 6 }, breach(api.BrBreak, 1, 0)},
		{func(m *api.Custom) { m.Layers = 2 }, breach(api.BrLayers, 0, 0)},
		// the first one of several
		{func(m *api.Custom) {
			*m = api.Custom{Layers: 9, Eave: span(-9, -9), Gauge: span(1, 1), Side: 100, Break: 100}
		}, breach(api.BrEave, 0, 0)},
		{func(m *api.Custom) { *m = api.Custom{Layers: 9, Gauge: span(1, 1), Side: 100, Break: 100} }, breach(api.BrSide, 0, 1)},
		{func(m *api.Custom) { *m = api.Custom{Layers: 9, Gauge: span(1, 1), Break: 100} }, breach(api.BrGauge, 1, 0)},
		{func(m *api.Custom) { *m = api.Custom{Layers: 9, Gauge: span(20, 20), Break: 100} }, breach(api.BrBreak, 1, 0)},
	} {
		m := exampleCustom()
		x.change(&m)
		isBroken(t, square(), m, example(), x.want)
	}
}

func TestBroken(t *testing.T) {
	plain := func(u int) api.Bundle { return bundle(u, 10, 50, 0, 0, 1) }
	leaning := func(u, lean int) api.Bundle { return bundle(u, 10, 50, lean, 0, 1) }
	m := api.Custom{Layers: 1, Eave: span(-9, 0), Gauge: span(5, 10), Side: 2, Break: 3, Lean: 4}
	full := course(-9, bundle(0, 100, 100, 0, 0, 1))
	for _, x := range []struct {
		c    api.Coat
		want api.Breach
	}{
		{api.Coat{}, breach(api.BrLayers, 0, 0)},
		{courses(course(0)), breach(api.BrLayers, 0, 0)},
		{courses(full), api.Breach{}},
		{courses(full, course(0)), api.Breach{}},
		{courses(course(1)), breach(api.BrEave, 0, 0)},
		{courses(course(-10)), breach(api.BrEave, 0, 0)},
		{courses(full, course(-4), course(0)), breach(api.BrGauge, 2, 0)},
		{courses(full, course(-4), course(7)), breach(api.BrGauge, 2, 0)},
		{courses(full, course(0), course(10)), api.Breach{}},
		// leaning: to both sides, in each course, and of the first bundle, too
		{courses(full, course(0, leaning(9, 4), leaning(9, -4))), api.Breach{}},
		{courses(full, course(0, leaning(9, 4), leaning(9, -5))), breach(api.BrLean, 1, 1)},
		{courses(full, course(0, leaning(9, 5), leaning(9, -4))), breach(api.BrLean, 1, 0)},
		{courses(course(-3, leaning(9, 5))), breach(api.BrLean, 0, 0)},
		{courses(course(-3, leaning(9, -5))), breach(api.BrLean, 0, 0)},
		// beside: not to the left, and not too far to the right
		{courses(full, course(0, plain(9), plain(9), plain(17), plain(25))), api.Breach{}},
		{courses(full, course(0, plain(9), plain(8))), breach(api.BrSide, 1, 1)},
		{courses(full, course(0, plain(9), plain(17), plain(26))), breach(api.BrSide, 1, 2)},
		{courses(course(-9, plain(9), plain(18))), breach(api.BrSide, 0, 1)},
		{courses(course(-9, bundle(0, 100, 100, 0, 0, 1), bundle(99, 9, 9, 0, 0, 1))), breach(api.BrSide, 0, 1)},
		{courses(course(-9, bundle(0, 100, 100, 0, 0, 1), bundle(98, 9, 9, 0, 0, 1))), api.Breach{}},
		// butts one above the other: of all bundles, of the course just before
		{courses(full, course(0, plain(3))), api.Breach{}},
		{courses(full, course(0, plain(2))), breach(api.BrBreak, 1, 0)},
		{courses(full, course(0, plain(-3))), api.Breach{}},
		{courses(full, course(0, plain(-2))), breach(api.BrBreak, 1, 0)},
		{courses(full, course(0, plain(-3), plain(0))), breach(api.BrBreak, 1, 1)},
		{courses(full, course(-1, plain(9), plain(15), plain(21)), course(5, plain(12), plain(18), plain(19))), breach(api.BrBreak, 2, 2)},
		{courses(full, course(-1, plain(9), plain(15), plain(21)), course(5, plain(18), plain(24))), api.Breach{}},
		{courses(full, course(-1, plain(9), plain(15), plain(21)), course(5, plain(23))), breach(api.BrBreak, 2, 0)},
		{courses(full, course(-1, plain(9)), course(5, plain(2))), api.Breach{}},
		{courses(full, course(-1), course(5, plain(0))), api.Breach{}},
		// of one bundle: leaning first, then beside, then butts
		{courses(full, course(0, plain(9), leaning(1, 5))), breach(api.BrLean, 1, 1)},
		{courses(full, course(0, plain(9), plain(1))), breach(api.BrSide, 1, 1)},
		{courses(full, course(0, plain(1), leaning(0, 5))), breach(api.BrBreak, 1, 0)},
		{courses(full, course(5, leaning(9, 5))), breach(api.BrGauge, 1, 0)},
		{courses(full, course(0, leaning(9, 5)), course(20)), breach(api.BrLean, 1, 0)},
		{courses(course(-10, leaning(0, 9))), breach(api.BrEave, 0, 0)},
	} {
		isBroken(t, square(), m, x.c, x.want)
	}
	m.Layers = 2
	isBroken(t, square(), m, courses(full), breach(api.BrLayers, 0, 0))
	isBroken(t, square(), m, courses(full, course(0, bundle(-30, 100, 100, 0, 0, 1))), api.Breach{})
	isBroken(t, square(), m, courses(full, course(1, bundle(-30, 100, 100, 0, 0, 1))), breach(api.BrLayers, 0, 0))
	isBroken(t, square(), m, courses(full, course(-1, bundle(-30, 69, 100, 0, 0, 1))), breach(api.BrLayers, 0, 0))
}

func TestBrokenErrors(t *testing.T) {
	wrong := api.Area{Outline: outline(0, 0, 9, 0, 9, 0)}
	bad := courses(course(0), course(0))
	for _, x := range []struct {
		a    api.Area
		m    api.Custom
		c    api.Coat
		want api.Errno
	}{
		{wrong, api.Custom{}, bad, api.ErrTwice},
		{square(), api.Custom{}, bad, api.ErrArg},
		{square(), exampleCustom(), bad, api.ErrState},
		{square(), api.Custom{}, example(), api.ErrArg},
	} {
		if b, e := coat.Broken(x.a, x.m, x.c); e != x.want || b != (api.Breach{}) {
			t.Error(b, e)
		}
	}
}

// layCustom and layMake are those of the document's example.
func layCustom() api.Custom {
	return api.Custom{Layers: 2, Eave: span(-40, 0), Gauge: span(10, 20), Side: 5, Break: 10}
}

func layMake() api.Make { return api.Make{Width: 30, Length: 40, Thick: 100} }

func TestLayExample(t *testing.T) {
	even := []api.Bundle{bundle(0, 30, 40, 0, 0, 100), bundle(25, 30, 40, 0, 0, 100)}
	odd := []api.Bundle{bundle(-13, 30, 40, 0, 0, 100), bundle(12, 30, 40, 0, 0, 100)}
	want := courses(course(-20, even...), course(0, odd...), course(20, even...), course(40, odd...))
	c, e := coat.Lay(square(), layCustom(), layMake())
	if e != api.OK || !sameCoat(c, want) {
		t.Error(c, e)
	}
	isBroken(t, square(), layCustom(), c, api.Breach{})
}

func TestLay(t *testing.T) {
	row := func(k api.Make, v int, u ...int) api.Course {
		c := course(v)
		for _, n := range u {
			c.Bundles = append(c.Bundles, bundle(n, k.Width, k.Length, 0, k.Taper, k.Thick))
		}
		return c
	}
	k := layMake()
	tapered := api.Make{Width: 31, Length: 45, Taper: 5, Thick: 7}
	for _, x := range []struct {
		a    api.Area
		m    api.Custom
		k    api.Make
		want api.Coat
	}{
		// twice the taper is more than Side: steps of 21 aside, 10 is half of it; 15 up
		{square(), api.Custom{Layers: 3, Eave: span(-400, -31), Gauge: span(1, 100), Side: 9, Break: 10}, tapered, courses(
			row(tapered, -31, -5, 16), row(tapered, -16, -16, 5, 26), row(tapered, -1, -5, 16), row(tapered, 14, -16, 5, 26), row(tapered, 29, -5, 16))},
		// Side is more than twice the taper: steps of 20 aside
		{square(), api.Custom{Layers: 3, Eave: span(-30, 0), Gauge: span(15, 15), Side: 11, Break: 10}, tapered, courses(
			row(tapered, -30, -5, 15), row(tapered, -15, -15, 5, 25), row(tapered, 0, -5, 15), row(tapered, 15, -15, 5, 25), row(tapered, 30, -5, 15))},
		// one layer: it begins at the eave, and at the greatest V a course is laid, too
		{rectangle(0, 0, 30, 40), api.Custom{Layers: 1, Eave: span(-9, 0), Gauge: span(1, 100), Side: 0}, k, courses(row(k, 0, 0), row(k, 40, -15, 15))},
		{rectangle(0, 0, 31, 39), api.Custom{Layers: 1, Eave: span(-9, 0), Gauge: span(1, 100), Side: 0}, k, courses(row(k, 0, 0, 30))},
		{rectangle(10, 30, 31, 41), api.Custom{Layers: 1, Eave: span(-9, -3), Gauge: span(1, 22), Side: 0}, k, courses(row(k, -3, 0, 30), row(k, 19, -15, 15), row(k, 41, 0, 30))},
		// the eave may begin below all, far
		{rectangle(0, 0, 20, 9), api.Custom{Layers: 1, Eave: span(-100, -95), Gauge: span(1, 40)}, k, courses(row(k, -95, 0), row(k, -55, -15, 15), row(k, -15, 0))},
		// a step of 1: half of it is none
		{rectangle(0, 0, 30, 1), api.Custom{Layers: 1, Gauge: span(1, 40), Side: 29}, k, courses(row(k, 0, 0))},
		{rectangle(0, 0, 32, 1), api.Custom{Layers: 1, Gauge: span(1, 40), Side: 29}, k, courses(row(k, 0, 0, 1, 2))},
		// the outline's greatest numbers need not be of one corner
		{area(nil, 20, 0, 35, 15, 20, 45, 0, 15), api.Custom{Layers: 1, Gauge: span(1, 40)}, k, courses(row(k, 0, 0, 30), row(k, 40, -15, 15))},
	} {
		c, e := coat.Lay(x.a, x.m, x.k)
		if e != api.OK || !sameCoat(c, x.want) {
			t.Error(x.m, x.k, c, e)
		}
		isBroken(t, x.a, x.m, c, api.Breach{})
	}
}

func TestLayErrors(t *testing.T) {
	wrong := api.Area{Outline: outline(0, 0, 9, 0, 9, 0)}
	for i, x := range []struct {
		change func(a *api.Area, m *api.Custom, k *api.Make)
		want   api.Errno
	}{
		{func(a *api.Area, m *api.Custom, k *api.Make) {}, api.OK},
		{func(a *api.Area, m *api.Custom, k *api.Make) { *a, *m, *k = wrong, api.Custom{}, api.Make{} }, api.ErrTwice},
		{func(a *api.Area, m *api.Custom, k *api.Make) { *a, m.Break = wrong, 13 }, api.ErrTwice},
		{func(a *api.Area, m *api.Custom, k *api.Make) { m.Layers = 0 }, api.ErrArg},
		{func(a *api.Area, m *api.Custom, k *api.Make) { m.Eave = span(0, 1) }, api.ErrArg},
		{func(a *api.Area, m *api.Custom, k *api.Make) { k.Taper, m.Break = 15, 13 }, api.ErrArg},
		{func(a *api.Area, m *api.Custom, k *api.Make) { k.Taper = -1 }, api.ErrArg},
		{func(a *api.Area, m *api.Custom, k *api.Make) { k.Taper = 1 << 62 }, api.ErrArg},
		{func(a *api.Area, m *api.Custom, k *api.Make) { k.Width = 101 }, api.ErrArg},
		{func(a *api.Area, m *api.Custom, k *api.Make) { k.Width = 0 }, api.ErrArg},
		{func(a *api.Area, m *api.Custom, k *api.Make) { k.Length = 0 }, api.ErrArg},
		{func(a *api.Area, m *api.Custom, k *api.Make) { k.Length = math.MaxInt }, api.ErrArg},
		{func(a *api.Area, m *api.Custom, k *api.Make) { k.Thick = 1001 }, api.ErrArg},
		// the step up
		{func(a *api.Area, m *api.Custom, k *api.Make) { k.Length = 20 }, api.OK},
		{func(a *api.Area, m *api.Custom, k *api.Make) { k.Length = 19 }, api.ErrScope},
		{func(a *api.Area, m *api.Custom, k *api.Make) { m.Layers, m.Gauge, k.Length = 96, span(1, 1), 95 }, api.ErrScope},
		// the step aside, and half of it
		{func(a *api.Area, m *api.Custom, k *api.Make) { m.Break = 12 }, api.OK},
		{func(a *api.Area, m *api.Custom, k *api.Make) { m.Break = 13 }, api.ErrScope},
		{func(a *api.Area, m *api.Custom, k *api.Make) { m.Break, m.Side = 0, 29 }, api.OK},
		{func(a *api.Area, m *api.Custom, k *api.Make) { m.Break, m.Side = 0, 30 }, api.ErrScope},
		{func(a *api.Area, m *api.Custom, k *api.Make) { m.Break, m.Side = 0, 31 }, api.ErrScope},
		{func(a *api.Area, m *api.Custom, k *api.Make) { m.Break, k.Taper = 1, 14 }, api.OK},
		{func(a *api.Area, m *api.Custom, k *api.Make) { m.Break, k.Taper = 2, 14 }, api.ErrScope},
		// the eave
		{func(a *api.Area, m *api.Custom, k *api.Make) { m.Eave = span(-20, 0) }, api.OK},
		{func(a *api.Area, m *api.Custom, k *api.Make) { m.Eave = span(-19, 0) }, api.ErrScope},
		{func(a *api.Area, m *api.Custom, k *api.Make) { m.Eave = span(-40, -40) }, api.OK},
		// 24 courses, and 25; 96 bundles, and 97
		{func(a *api.Area, m *api.Custom, k *api.Make) {
			m.Layers, m.Gauge, *a = 1, span(1, 1), rectangle(0, 0, 9, 23)
		}, api.OK},
		{func(a *api.Area, m *api.Custom, k *api.Make) {
			m.Layers, m.Gauge, *a = 1, span(1, 1), rectangle(0, 0, 9, 24)
		}, api.ErrLimit},
		{func(a *api.Area, m *api.Custom, k *api.Make) {
			m.Layers, m.Gauge, *a = 1, span(1, 1), rectangle(0, 0, 400, 400)
		}, api.ErrLimit},
		{func(a *api.Area, m *api.Custom, k *api.Make) {
			m.Layers, m.Break, m.Side, *a = 1, 0, 29, rectangle(0, 0, 125, 1)
		}, api.OK},
		{func(a *api.Area, m *api.Custom, k *api.Make) {
			m.Layers, m.Break, m.Side, *a = 1, 0, 29, rectangle(0, 0, 126, 1)
		}, api.ErrLimit},
		{func(a *api.Area, m *api.Custom, k *api.Make) {
			m.Layers, m.Break, m.Side, *a = 1, 0, 28, rectangle(0, 0, 400, 19)
		}, api.ErrLimit},
		{func(a *api.Area, m *api.Custom, k *api.Make) {
			m.Break, m.Side, m.Eave.High, *a = 0, 28, -20, rectangle(0, 0, 70, 19)
		}, api.OK},
		{func(a *api.Area, m *api.Custom, k *api.Make) {
			m.Break, m.Side, m.Eave.High, *a = 0, 28, -20, rectangle(0, 0, 123, 19)
		}, api.OK},
		{func(a *api.Area, m *api.Custom, k *api.Make) {
			m.Break, m.Side, m.Eave.High, *a = 0, 28, -20, rectangle(0, 0, 124, 19)
		}, api.ErrLimit},
	} {
		a, m, k := square(), layCustom(), layMake()
		x.change(&a, &m, &k)
		c, e := coat.Lay(a, m, k)
		if e != x.want || e != api.OK && c.Courses != nil {
			t.Error(i, c, e, x.want)
		}
		if e == api.OK {
			isBroken(t, a, m, c, api.Breach{})
		}
	}
}

// wantLay is the chapter's way to lay, step by step.
func wantLay(a api.Area, m api.Custom, k api.Make) (api.Coat, api.Errno) {
	g := k.Length / m.Layers
	if m.Gauge.High < g {
		g = m.Gauge.High
	}
	s := k.Width - m.Side
	if 2*k.Taper > m.Side {
		s = k.Width - 2*k.Taper
	}
	if g < m.Gauge.Low || s < 1 || s/2 < m.Break {
		return api.Coat{}, api.ErrScope
	}
	v := m.Eave.High
	for v >= m.Eave.Low && v > -(m.Layers-1)*g {
		v--
	}
	if v < m.Eave.Low {
		return api.Coat{}, api.ErrScope
	}
	right, top := 0, 0
	for _, p := range a.Outline {
		right, top = max(right, p.U), max(top, p.V)
	}
	var c api.Coat
	count := 0
	for ; v <= top; v += g {
		row := api.Course{V: v}
		u := -k.Taper
		if len(c.Courses)&1 != 0 {
			u = -k.Taper - s + s/2
		}
		for done := false; !done; u += s {
			row.Bundles = append(row.Bundles, api.Bundle{U: u, Width: k.Width, Length: k.Length, Taper: k.Taper, Thick: k.Thick})
			done = u+k.Width-k.Taper >= right
			count++
		}
		c.Courses = append(c.Courses, row)
	}
	if len(c.Courses) > 24 || count > 96 {
		return api.Coat{}, api.ErrLimit
	}
	return c, api.OK
}

// P3.7: whatever Lay returns breaks no rule.
func TestLayOfAny(t *testing.T) {
	rng := rand.New(rand.NewSource(37))
	seen := map[api.Errno]int{}
	for range 4000 {
		a, k := randomArea(t, rng, []int{20, 100, 400}[rng.Intn(3)]), randomMake(rng)
		m := api.Custom{
			Layers: between(rng, 1, 4),
			Eave:   span(-between(rng, 0, 400), 0),
			Gauge:  span(1, between(rng, 1, 100)),
			Side:   between(rng, 0, 30),
			Break:  between(rng, 0, 20),
			Lean:   between(rng, 0, 50),
		}
		if rng.Intn(3) == 0 {
			m.Eave.High = between(rng, m.Eave.Low, 0)
			m.Gauge.Low = between(rng, 1, m.Gauge.High)
		}
		c, e := coat.Lay(a, m, k)
		want, wantError := wantLay(a, m, k)
		if e != wantError || !sameCoat(c, want) {
			t.Fatal(a, m, k, c, e, want, wantError)
		}
		seen[e]++
		if e != api.OK {
			continue
		}
		isBroken(t, a, m, c, api.Breach{})
		if f := coat.Check(c); f != api.OK {
			t.Fatal(c, f)
		}
		if layers, _ := wantLeast(a, c); len(allBundles(c)) < 12 && layers < m.Layers {
			t.Fatal(a, m, c, layers)
		}
	}
	if seen[api.OK] < 500 || seen[api.ErrScope] < 500 || seen[api.ErrLimit] < 100 {
		t.Error(seen)
	}
}
