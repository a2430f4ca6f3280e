package coat_test

import (
	"math"
	"math/rand"
	"reflect"
	"slices"
	"strings"
	"sync"
	"testing"

	"thatch/api"
	"thatch/coat"
)

// P0.7, and the rules R1 to R11, for all functions of the package.

// asked is what all functions are given.
type asked struct {
	a    api.Area
	c, d api.Coat
	s    api.Spot
	v    api.Ratio
	take int
	m    api.Custom
	k    api.Make
}

// answers calls every function but Parse and Same, and returns the results of each, with its error behind them.
func answers(q asked) [][]any {
	area := coat.CheckArea(q.a)
	check := coat.Check(q.c)
	in, inError := coat.In(q.a, q.s)
	over, overError := coat.Over(q.c, q.s)
	layers, layersAt, leastError := coat.Least(q.a, q.c)
	thick, thickAt, thinnestError := coat.Thinnest(q.a, q.c)
	row, rowError := coat.Row(q.a, q.c, q.v)
	worn, wornError := coat.Worn(q.c, q.take)
	piles, pilesError := coat.Piles(q.c)
	custom := coat.CheckCustom(q.m)
	broken, brokenError := coat.Broken(q.a, q.m, q.c)
	laid, layError := coat.Lay(q.a, q.m, q.k)
	text, printError := coat.Print(q.c)
	return [][]any{
		{area}, {check}, {in, inError}, {over, overError}, {layers, layersAt, leastError}, {thick, thickAt, thinnestError},
		{row, rowError}, {worn, wornError}, {piles, pilesError}, {custom}, {broken, brokenError}, {laid, layError}, {text, printError},
	}
}

// wantErrors tells, for each of the answers, the errors of its arguments in the order in which they come, by what CheckArea, Check and CheckCustom return.
func wantErrors(q asked) [][]api.Errno {
	a, c, m := coat.CheckArea(q.a), coat.Check(q.c), coat.CheckCustom(q.m)
	return [][]api.Errno{{a}, {c}, {a}, {c}, {a, c}, {a, c}, {a, c}, {c}, {c}, {m}, {a, m, c}, {a, m}, {c}}
}

var strange = []int{math.MinInt, math.MinInt + 1, -1 << 62, -1 << 31, -401, -400, -51, -50, -1, 0, 0, 1, 2, 3, 7, 14, 15, 24, 25, 50, 51, 100, 101, 400, 401, 1000, 1001, 160000, 1 << 31, 1 << 32, 1 << 62, math.MaxInt}

func anyInt(rng *rand.Rand) int { return strange[rng.Intn(len(strange))] }

func spoilArea(rng *rand.Rand, a *api.Area) {
	switch rng.Intn(6) {
	case 0:
		a.Outline = a.Outline[:rng.Intn(len(a.Outline)+1)]
	case 1:
		a.Outline = append(a.Outline, make([]api.Pt, anyInt(rng)&15)...)
	case 2:
		a.Holes = append(a.Holes, box(anyInt(rng), anyInt(rng), anyInt(rng), anyInt(rng)))
	case 3:
		a.Holes = append(a.Holes, box(7, 7, 9, 9), box(8, 8, 10, 10))
	case 4:
		a.Holes = append(a.Holes, make([]api.Box, anyInt(rng)&15)...)
	default:
		if len(a.Outline) > 0 {
			a.Outline[rng.Intn(len(a.Outline))] = pt(anyInt(rng), anyInt(rng))
		}
	}
}

func spoilCoat(rng *rand.Rand, c *api.Coat) {
	if len(c.Courses) == 0 || rng.Intn(5) == 0 {
		c.Courses = append(c.Courses, make([]api.Course, anyInt(rng)&31)...)
		return
	}
	k := &c.Courses[rng.Intn(len(c.Courses))]
	if len(k.Bundles) == 0 || rng.Intn(3) == 0 {
		k.V = anyInt(rng)
		return
	}
	b := &k.Bundles[rng.Intn(len(k.Bundles))]
	*[]*int{&b.U, &b.Width, &b.Length, &b.Lean, &b.Taper, &b.Thick}[rng.Intn(6)] = anyInt(rng)
}

func spoilCustom(rng *rand.Rand, m *api.Custom) {
	*[]*int{&m.Layers, &m.Eave.Low, &m.Eave.High, &m.Gauge.Low, &m.Gauge.High, &m.Side, &m.Break, &m.Lean}[rng.Intn(8)] = anyInt(rng)
}

func anyAsked(t *testing.T, rng *rand.Rand) asked {
	q := asked{a: square(box(7, 8, 9, 10)), c: example(), s: randomSpot(rng, 60, 4), v: randomPlace(rng, 50, 4), take: between(rng, -1, 120), m: layCustom(), k: layMake()}
	if rng.Intn(2) == 0 {
		size := between(rng, 6, 60)
		q.a, q.c = randomArea(t, rng, size), randomCoat(rng, size, 4)
	}
	if rng.Intn(2) == 0 {
		q.k = randomMake(rng)
	}
	if rng.Intn(3) == 0 {
		spoilArea(rng, &q.a)
	}
	for rng.Intn(3) == 0 {
		spoilCoat(rng, &q.c)
	}
	for rng.Intn(3) == 0 {
		spoilCustom(rng, &q.m)
	}
	if rng.Intn(3) == 0 {
		numbers := []*int{&q.s.U.Num, &q.s.U.Den, &q.s.V.Num, &q.s.V.Den, &q.v.Num, &q.v.Den, &q.take, &q.k.Width, &q.k.Length, &q.k.Taper, &q.k.Thick}
		*numbers[rng.Intn(len(numbers))] = anyInt(rng)
	}
	return q
}

// isNothing reports whether a result is its zero value; an empty list is.
func isNothing(x any) bool {
	v := reflect.ValueOf(x)
	return v.IsZero() || v.Kind() == reflect.Slice && v.Len() == 0
}

func TestAny(t *testing.T) {
	rng := rand.New(rand.NewSource(46))
	areas, coats := map[any]int{}, map[any]int{}
	for range 6000 {
		q := anyAsked(t, rng)
		a, c := copyArea(q.a), copyCoat(q.c)
		list := answers(q)
		if again := answers(q); !reflect.DeepEqual(list, again) {
			t.Fatal("not the same again", q)
		}
		if !sameArea(q.a, a) || !sameCoat(q.c, c) {
			t.Fatal("changed", a, c)
		}
		areas[list[0][0]]++
		coats[list[1][0]]++
		for i, errors := range wantErrors(q) {
			last := len(list[i]) - 1
			got := list[i][last]
			for _, e := range errors {
				if e != api.OK {
					if got != e {
						t.Fatal("function", i, "has the error", got, "and not", e, q)
					}
					break
				}
			}
			if got == api.OK {
				continue
			}
			for _, x := range list[i][:last] {
				if !isNothing(x) {
					t.Fatal("with an error", i, x)
				}
			}
		}
	}
	for _, e := range []api.Errno{api.OK, api.ErrArg, api.ErrLimit, api.ErrTwice, api.ErrScope, api.ErrClash} {
		if areas[e] == 0 {
			t.Error("no area with the error", e)
		}
	}
	for _, e := range []api.Errno{api.OK, api.ErrArg, api.ErrLimit, api.ErrState} {
		if coats[e] == 0 {
			t.Error("no coat with the error", e)
		}
	}
}

func TestManyOfAll(t *testing.T) {
	const many = 1 << 20
	checkArea(t, api.Area{Outline: make([]api.Pt, many)}, api.ErrLimit)
	checkArea(t, api.Area{Outline: square().Outline, Holes: make([]api.Box, many)}, api.ErrLimit)
	check(t, api.Coat{Courses: make([]api.Course, many)}, api.ErrLimit)
	check(t, courses(course(0, make([]api.Bundle, many)...)), api.ErrLimit)
}

func TestAnyText(t *testing.T) {
	rng := rand.New(rand.NewSource(47))
	pieces := []string{"course", "bundle", " ", " ", " ", "\n", "\n", "0", "1", "9", "-", "10", "\xff", "\x00", "ü", exampleText, bundleLine, "course 3\n"}
	good := 0
	for range 20000 {
		text := exampleText
		if rng.Intn(2) == 0 {
			text = ""
			for range rng.Intn(30) {
				text += pieces[rng.Intn(len(pieces))]
			}
		} else {
			i, j := rng.Intn(len(text)), rng.Intn(len(text))
			text = text[:min(i, j)] + pieces[rng.Intn(len(pieces))] + text[max(i, j):]
		}
		c, n, e := coat.Parse(text)
		if e != api.OK {
			if c.Courses != nil || n < 0 || n > strings.Count(text, "\n")+1 || (n > 0) != (e == api.ErrForm) {
				t.Fatalf("%q: %v %d %d", text, c, n, e)
			}
			continue
		}
		good++
		if s, e := coat.Print(c); e != api.OK || n != 0 || s != text && s != text+"\n" {
			t.Fatalf("%q: %q %d %d", text, s, n, e)
		}
	}
	if good < 100 {
		t.Error(good)
	}
}

// spend changes all that a coat has.
func spend(c api.Coat) {
	for i, k := range c.Courses {
		clear(k.Bundles)
		// What a list has room for is its own, too.
		_ = append(k.Bundles, bundle(-1, -1, -1, -1, -1, -1))
		c.Courses[i] = course(-9)
	}
	_ = append(c.Courses, course(-9))
}

// What is returned shares no memory with the arguments, nor with what another call returns, nor within itself.
func TestNewMemory(t *testing.T) {
	a, c := square(box(7, 8, 9, 10)), example()
	for range 2 {
		over, _ := coat.Over(c, at(20, 30))
		row, _ := coat.Row(a, c, whole(9))
		piles, _ := coat.Piles(c)
		if len(over) == 0 || len(row) == 0 || len(piles) == 0 {
			t.Fatal(over, row, piles)
		}
		clear(over)
		clear(row)
		clear(piles)
		for _, take := range []int{0, 1, 60} {
			w, _ := coat.Worn(c, take)
			before := copyCoat(w)
			last := &w.Courses[0]
			last.Bundles = append(last.Bundles, bundle(1, 1, 1, 1, 1, 1))
			if !slices.Equal(w.Courses[1].Bundles, before.Courses[1].Bundles) {
				t.Error("two lists share memory", w)
			}
			spend(w)
		}
		p, _, _ := coat.Parse(exampleText)
		p.Courses[0].Bundles = append(p.Courses[0].Bundles, bundle(1, 1, 1, 1, 1, 1))
		if len(p.Courses[1].Bundles) != 1 || p.Courses[1].Bundles[0] != c.Courses[1].Bundles[0] {
			t.Error(p)
		}
		spend(p)
		l, _ := coat.Lay(a, layCustom(), layMake())
		l.Courses[0].Bundles = append(l.Courses[0].Bundles, bundle(1, 1, 1, 1, 1, 1))
		if len(l.Courses[1].Bundles) != 2 || l.Courses[1].Bundles[0].U != -13 {
			t.Error(l)
		}
		spend(l)
		if !sameCoat(c, example()) || !sameArea(a, square(box(7, 8, 9, 10))) {
			t.Fatal(a, c)
		}
	}
	TestLayExample(t)
}

// A nil list and an empty one are the same.
func TestNilAndEmpty(t *testing.T) {
	empty := asked{a: api.Area{Outline: []api.Pt{}, Holes: []api.Box{}}, c: api.Coat{Courses: []api.Course{}}}
	isAlike := func(p, q asked) {
		t.Helper()
		list, other := answers(p), answers(q)
		for i, results := range list {
			for k, x := range results {
				if c, ok := x.(api.Coat); ok {
					if !sameCoat(c, other[i][k].(api.Coat)) {
						t.Error(i, x)
					}
				} else if !reflect.DeepEqual(x, other[i][k]) && !(isNothing(x) && isNothing(other[i][k])) {
					t.Error(i, x, other[i][k])
				}
			}
		}
	}
	isAlike(empty, asked{})
	p := asked{a: square(), c: courses(course(0)), s: at(3, 3), v: whole(3), m: layCustom(), k: layMake()}
	q := p
	q.a.Holes, q.c.Courses = []api.Box{}, []api.Course{{Bundles: []api.Bundle{}}}
	isAlike(p, q)
}

// Calls that run at once do not get in each other's way.
func TestTogether(t *testing.T) {
	rng := rand.New(rand.NewSource(48))
	a, c := randomArea(t, rng, 60), covered(rng, 60, randomCoat(rng, 60, 8))
	want := answers(asked{a: a, c: c, s: at(9, 9), v: whole(9), m: layCustom(), k: layMake()})
	var group sync.WaitGroup
	for range 8 {
		group.Go(func() {
			if got := answers(asked{a: a, c: c, s: at(9, 9), v: whole(9), m: layCustom(), k: layMake()}); !reflect.DeepEqual(got, want) {
				t.Error(got, want)
			}
		})
	}
	group.Wait()
}
