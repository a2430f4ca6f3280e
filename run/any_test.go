package run_test

import (
	"math"
	"math/rand"
	"reflect"
	"slices"
	"sync"
	"testing"

	"thatch/api"
	"thatch/coat"
	"thatch/roof"
	"thatch/run"
)

// P0.7, and the rules R1 to R11, for all functions of the package.

// asked is what all functions are given.
type asked struct {
	a     api.Area
	c     api.Coat
	wear  int
	l     []int
	takes []int
	r     api.Roof
	coats []api.Coat
}

func copyRoof(r api.Roof) api.Roof {
	s := api.Roof{Faces: slices.Clone(r.Faces), Opens: slices.Clone(r.Opens)}
	for i, f := range s.Faces {
		s.Faces[i].Corners = slices.Clone(f.Corners)
	}
	return s
}

func copyAsked(q asked) asked {
	p := asked{copyArea(q.a), copyCoat(q.c), q.wear, slices.Clone(q.l), slices.Clone(q.takes), copyRoof(q.r), nil}
	for _, c := range q.coats {
		p.coats = append(p.coats, copyCoat(c))
	}
	return p
}

// answers calls every function, and returns the results of each, with its error behind them.
func answers(q asked) [][]any {
	links, linksError := run.Links(q.a, q.c)
	bundles, leaks, wetError := run.Wet(q.a, q.c, q.wear)
	needs, needsError := run.Needs(q.a, q.c)
	wear, way, leakError := run.Leak(q.a, q.c)
	yes, provesError := run.Proves(q.a, q.c, q.wear, q.l)
	years, lastsError := run.Lasts(q.a, q.c, q.takes)
	house, houseError := run.House(q.r, q.coats)
	return [][]any{
		{links, linksError},
		{bundles, leaks, wetError},
		{needs, needsError},
		{wear, way, leakError},
		{yes, provesError},
		{years, lastsError},
		{house, houseError},
	}
}

func argument(ok bool) api.Errno {
	if ok {
		return api.OK
	}
	return api.ErrArg
}

func isEach(list []int, low, high int) bool {
	return !slices.ContainsFunc(list, func(n int) bool { return n < low || n > high })
}

// wantErrors tells, for each of the answers, the errors of its arguments in the order in which they come.
func wantErrors(q asked) [][]api.Errno {
	a, c := coat.CheckArea(q.a), coat.Check(q.c)
	wear := argument(isEach([]int{q.wear}, 0, 1000))
	takes := argument(len(q.takes) > 0 && len(q.takes) <= 100 && isEach(q.takes, 0, 1000))
	house := []api.Errno{roof.Check(q.r), argument(len(q.coats) == len(q.r.Faces))}
	for face := range min(len(q.coats), len(q.r.Faces)) {
		_, e := roof.Lay(q.r, face)
		house = append(house, e, coat.Check(q.coats[face]))
	}
	return [][]api.Errno{{a, c}, {a, c, wear}, {a, c}, {a, c}, {a, c}, {a, c, takes}, house}
}

func anyInt(rng *rand.Rand) int {
	strange := []int{math.MinInt, math.MinInt + 1, -1 << 62, -1 << 31, -401, -400, -51, -50, -2, -1, 0, 0, 1, 2, 3, 9, 40, 50, 51, 100, 101, 400, 401, 1000, 1001, 1 << 31, 1 << 32, 1 << 62, math.MaxInt}
	return strange[rng.Intn(len(strange))]
}

// spoil changes one number of an area, of coats, of lists or of a roof, or how many of something there are.
func spoil(rng *rand.Rand, q *asked) {
	numbers := []*int{&q.wear, &q.a.Outline[0].U, &q.a.Outline[2].V, &q.r.Faces[0].Foot, &q.r.Faces[2].Corners[1].Y, &q.r.Opens[0].High.X}
	for _, c := range append(slices.Clone(q.coats), q.c) {
		for i := range c.Courses {
			k := &c.Courses[i]
			numbers = append(numbers, &k.V)
			for n := range k.Bundles {
				b := &k.Bundles[n]
				numbers = append(numbers, &b.U, &b.Width, &b.Length, &b.Lean, &b.Taper, &b.Thick)
			}
		}
	}
	for i := range q.l {
		numbers = append(numbers, &q.l[i])
	}
	for i := range q.takes {
		numbers = append(numbers, &q.takes[i])
	}
	switch rng.Intn(16) {
	case 0:
		q.a.Outline = q.a.Outline[:rng.Intn(len(q.a.Outline))]
	case 1:
		q.a.Holes = append(q.a.Holes, box(anyInt(rng), anyInt(rng), anyInt(rng), anyInt(rng)))
	case 2:
		q.c.Courses = append(q.c.Courses, make([]api.Course, anyInt(rng)&31)...)
	case 3:
		q.l = append(q.l, anyInt(rng))
	case 4:
		q.takes = append(q.takes, make([]int, anyInt(rng)&127)...)
	case 5:
		q.coats = q.coats[:rng.Intn(len(q.coats))]
	case 6:
		q.a.Outline[1] = q.a.Outline[0]
	case 7:
		q.a.Holes = append(q.a.Holes, q.a.Holes...)
	default:
		*numbers[rng.Intn(len(numbers))] = anyInt(rng)
	}
}

func anyAsked(t *testing.T, rng *rand.Rand) asked {
	size := []int{8, 40}[rng.Intn(2)]
	q := asked{a: randomArea(rng, size), c: randomCoat(rng, size, 3), wear: between(rng, 0, 9), takes: []int{3, 0}, r: house()}
	if rng.Intn(3) == 0 {
		q.r = standing()
	}
	q.l = needs(t, q.a, q.c)
	for range q.r.Faces {
		q.coats = append(q.coats, randomCoat(rng, 40, 2))
	}
	if rng.Intn(2) == 0 {
		spoil(rng, &q)
	}
	return q
}

// isNothing reports whether a result is its zero value; an empty list is.
func isNothing(x any) bool {
	v := reflect.ValueOf(x)
	return v.IsZero() || v.Kind() == reflect.Slice && v.Len() == 0
}

func TestAny(t *testing.T) {
	rng := rand.New(rand.NewSource(86))
	seen := map[any]int{}
	for range 4000 {
		q := anyAsked(t, rng)
		before := copyAsked(q)
		list := answers(q)
		if again := answers(q); !reflect.DeepEqual(list, again) {
			t.Fatal("not the same again", q)
		}
		if !reflect.DeepEqual(copyAsked(q), before) {
			t.Fatal("changed", before)
		}
		for i, errors := range wantErrors(q) {
			want := api.OK
			for _, e := range errors {
				if want == api.OK {
					want = e
				}
			}
			last := len(list[i]) - 1
			if list[i][last] != want {
				t.Fatal("function", i, "has the error", list[i][last], "and not", want, q)
			}
			seen[want]++
			if want != api.OK && slices.ContainsFunc(list[i][:last], func(x any) bool { return !isNothing(x) }) {
				t.Fatal("with an error", i, list[i])
			}
		}
	}
	for _, e := range []api.Errno{api.OK, api.ErrArg, api.ErrLimit, api.ErrTwice, api.ErrState, api.ErrScope, api.ErrClash} {
		if seen[e] == 0 {
			t.Error("nothing with the error", e)
		}
	}
}

func TestManyOfAll(t *testing.T) {
	const many = 1 << 20
	for _, x := range []struct {
		a    api.Area
		c    api.Coat
		want api.Errno
	}{
		{api.Area{Outline: make([]api.Pt, many)}, api.Coat{}, api.ErrLimit},
		{square(make([]api.Box, many)...), api.Coat{}, api.ErrLimit},
		{square(), api.Coat{Courses: make([]api.Course, many)}, api.ErrLimit},
		{square(), courses(course(0, make([]api.Bundle, many)...)), api.ErrLimit},
	} {
		if _, e := run.Links(x.a, x.c); e != x.want {
			t.Error(e, x.want)
		}
	}
	if _, e := run.House(house(), make([]api.Coat, many)); e != api.ErrArg {
		t.Error(e)
	}
	if _, e := run.House(api.Roof{Faces: make([]api.Face, many)}, make([]api.Coat, many)); e != api.ErrLimit {
		t.Error(e)
	}
}

// What is returned shares no memory with the arguments, nor with what another call returns.
func TestNewMemory(t *testing.T) {
	a, c, r := square(box(7, 8, 9, 10)), hidden(), house()
	coats := []api.Coat{hidden(), example(), hidden()}
	for range 2 {
		isLinks(t, a, c, link(rain, 1, 0), link(0, off, 0), link(0, batten, 70), link(1, off, 0), link(1, 0, 20))
		isNeeds(t, a, c, 20, 0)
		isLeak(t, a, c, 70, 1, 0)
		isWet(t, a, c, 20, false, 0, 1)
		isHouse(t, r, coats, 70, 100, 70)
		clear(links(t, a, c))
		clear(needs(t, a, c))
		_, way := leak(t, a, c)
		clear(way)
		bundles, _ := wet(t, a, c, 20)
		clear(bundles)
		l, _ := run.House(r, coats)
		clear(l)
	}
}

// A nil list and an empty one are the same.
func TestNilAndEmpty(t *testing.T) {
	same := func(p, q asked) {
		t.Helper()
		list, other := answers(p), answers(q)
		for i, results := range list {
			for k, x := range results {
				if !reflect.DeepEqual(x, other[i][k]) && !(isNothing(x) && isNothing(other[i][k])) {
					t.Error(i, x, other[i][k])
				}
			}
		}
	}
	none := []int{}
	same(asked{}, asked{
		a: api.Area{Outline: []api.Pt{}, Holes: []api.Box{}}, c: api.Coat{Courses: []api.Course{}}, l: none, takes: none,
		r: api.Roof{Faces: []api.Face{}, Opens: []api.Open{}}, coats: []api.Coat{},
	})
	same(
		asked{a: square(), c: courses(course(0)), takes: []int{1}, r: api.Roof{Faces: house().Faces[:1]}, coats: make([]api.Coat, 1)},
		asked{
			a: square([]api.Box{}...), c: courses(course(0, []api.Bundle{}...)), l: none, takes: []int{1},
			r: api.Roof{Faces: house().Faces[:1], Opens: []api.Open{}}, coats: []api.Coat{courses()},
		},
	)
}

// Calls that run at once do not get in each other's way.
func TestTogether(t *testing.T) {
	q := anyAsked(t, rand.New(rand.NewSource(87)))
	want := answers(copyAsked(q))
	var group sync.WaitGroup
	for range 8 {
		group.Go(func() {
			if got := answers(q); !reflect.DeepEqual(got, want) {
				t.Error(got, want)
			}
		})
	}
	group.Wait()
}
