package mend_test

import (
	"math"
	"math/rand"
	"reflect"
	"slices"
	"strings"
	"sync"
	"testing"

	"thatch/api"
	"thatch/mend"
)

// P0.7, and the rules R1 to R11, for all functions of the package.

// asked is what all functions are given.
type asked struct {
	works       api.Works
	plan        [][]int
	year, slope int
	thick       []int
	least       int
	list        []api.Worth
	areas       []api.Area
	coats       []api.Coat
}

func copyAsked(q asked) asked {
	q.works = copyWorks(q.works)
	q.thick, q.list, q.plan = slices.Clone(q.thick), slices.Clone(q.list), slices.Clone(q.plan)
	for i := range q.plan {
		q.plan[i] = slices.Clone(q.plan[i])
	}
	for i := range q.list {
		q.list[i].Thick = slices.Clone(q.list[i].Thick)
	}
	q.areas, q.coats = slices.Clone(q.areas), slices.Clone(q.coats)
	for i := range q.areas {
		q.areas[i].Outline = slices.Clone(q.areas[i].Outline)
	}
	for i := range q.coats {
		q.coats[i].Courses = slices.Clone(q.coats[i].Courses)
	}
	return q
}

// answers calls every function but Parse, and returns the results of each, with its error behind them.
func answers(q asked) [][]any {
	thick, cost, at, followError := mend.Follow(q.works, q.plan)
	best, least, found, cheapestError := mend.Cheapest(q.works)
	left, kept, leastError := mend.Least(q.works, q.year, q.thick)
	values, valuesError := mend.Values(q.works)
	yes, provesError := mend.Proves(q.works, q.least, q.list)
	latest, lateError := mend.Late(q.works, q.plan, q.year, q.slope)
	begun, beginError := mend.Begin(q.works, q.areas, q.coats)
	text, printError := mend.Print(q.works)
	return [][]any{
		{mend.Check(q.works)},
		{thick, cost, at, followError},
		{best, least, found, cheapestError},
		{left, kept, leastError},
		{values, valuesError},
		{yes, provesError},
		{latest, lateError},
		{begun, beginError},
		{text, printError},
	}
}

func anyInt(rng *rand.Rand) int {
	strange := []int{math.MinInt, math.MinInt + 1, -1 << 62, -1 << 31, -2, -1, 0, 0, 1, 2, 3, 4, 5, 12, 13, 40, 41, 500, 501, 1000, 1001, 10000, 10001, 1000000, 1000001, api.MaxPaid, api.MaxPaid + 1, 1 << 32, 1<<62 + 1, math.MaxInt}
	return strange[rng.Intn(len(strange))]
}

// numbersOf returns where the numbers of works are.
func numbersOf(w *api.Works) []*int {
	list := []*int{&w.Years, &w.Visit, &w.Hands}
	for i := range w.Slopes {
		s := &w.Slopes[i]
		list = append(list, &s.Now, &s.Need, &s.Full, &s.Size)
		for k := range s.Takes {
			list = append(list, &s.Takes[k])
		}
	}
	for i := range w.Crafts {
		list = append(list, &w.Crafts[i].Add, &w.Crafts[i].Price)
	}
	return list
}

func spoil(rng *rand.Rand, w *api.Works) {
	switch rng.Intn(7) {
	case 0:
		w.Slopes = w.Slopes[:rng.Intn(len(w.Slopes)+1)]
	case 1:
		w.Slopes = append(w.Slopes, slice(rng.Intn(6), w.Slopes[0])...)
	case 2:
		w.Slopes[0].Takes = make([]int, rng.Intn(20))
	case 3:
		w.Crafts = append(w.Crafts, make([]api.Craft, rng.Intn(5))...)
	case 4:
		w.Crafts = append(w.Crafts, api.Craft{Add: anyInt(rng), Price: anyInt(rng), Strip: true})
	default:
		list := numbersOf(w)
		*list[rng.Intn(len(list))] = anyInt(rng)
	}
}

// spoilAsked changes what is asked besides the works.
func spoilAsked(rng *rand.Rand, q *asked) {
	switch rng.Intn(12) {
	case 0:
		q.plan = append(q.plan, row(anyInt(rng)))
	case 1:
		q.plan = q.plan[:rng.Intn(len(q.plan)+1)]
	case 2, 3:
		if len(q.plan) > 0 {
			q.plan[0] = append(q.plan[0][:rng.Intn(len(q.plan[0])+1)], anyInt(rng))
		}
	case 4:
		q.thick = append(q.thick[:rng.Intn(len(q.thick)+1)], anyInt(rng))
	case 5:
		q.list = append(q.list, worth(anyInt(rng), anyInt(rng), anyInt(rng)))
	case 6:
		q.list = append(q.list, make([]api.Worth, 2001)...)
	case 7:
		q.areas[0] = api.Area{Outline: make([]api.Pt, rng.Intn(16))}
	case 8:
		q.coats[0] = api.Coat{Courses: make([]api.Course, rng.Intn(26))}
	case 9:
		q.areas = append(q.areas, square())[:len(q.areas)+rng.Intn(2)]
		q.areas[0].Outline[rng.Intn(4)] = api.Pt{U: anyInt(rng), V: anyInt(rng)}
	default:
		list := []*int{&q.year, &q.slope, &q.least}
		*list[rng.Intn(3)] = anyInt(rng)
	}
}

func anyAsked(rng *rand.Rand) asked {
	w := randomWorks(rng, 3, 2, 5)
	q := asked{works: w, plan: randomPlan(rng, w), year: rng.Intn(w.Years + 1), slope: rng.Intn(len(w.Slopes)), least: rng.Intn(9)}
	for _, s := range w.Slopes {
		q.thick = append(q.thick, rng.Intn(s.Full+1))
		q.areas, q.coats = append(q.areas, square()), append(q.coats, laid(between(rng, 1, 50)))
	}
	if l, e := mend.Values(w); e == api.OK {
		q.list = misled(rng, l)
	}
	if rng.Intn(4) == 0 {
		spoil(rng, &q.works)
	}
	if rng.Intn(2) == 0 {
		spoilAsked(rng, &q)
	}
	return q
}

// isNothing reports whether a result is its zero value; an empty list is.
func isNothing(x any) bool {
	if w, ok := x.(api.Works); ok {
		return sameWorks(w, api.Works{})
	}
	v := reflect.ValueOf(x)
	return v.IsZero() || v.Kind() == reflect.Slice && v.Len() == 0
}

// checkResults makes sure that nothing else comes with an error, and that the error of the works comes first.
func checkResults(t *testing.T, q asked, list [][]any) {
	t.Helper()
	first := list[0][0]
	for i, results := range list {
		last := len(results) - 1
		if first != api.OK && results[last] != first {
			t.Fatal("function", i, "has not the error of the works", q, results)
		}
		if results[last] == api.OK {
			continue
		}
		for _, x := range results[:last] {
			if !isNothing(x) {
				t.Fatal("with an error", i, q, results)
			}
		}
	}
}

func TestAny(t *testing.T) {
	rng := rand.New(rand.NewSource(146))
	seen := map[int]map[any]int{}
	for range 4000 {
		q := anyAsked(rng)
		before := copyAsked(q)
		list := answers(q)
		if again := answers(q); !reflect.DeepEqual(list, again) {
			t.Fatal("not the same again", q, list, again)
		}
		if !reflect.DeepEqual(q, before) {
			t.Fatal("changed", before, q)
		}
		checkResults(t, q, list)
		for i, results := range list {
			if seen[i] == nil {
				seen[i] = map[any]int{}
			}
			seen[i][results[len(results)-1]]++
		}
	}
	for i, wanted := range [][]api.Errno{
		{api.OK, api.ErrArg, api.ErrLimit},
		{api.OK, api.ErrArg, api.ErrLimit},
		{api.OK, api.ErrArg, api.ErrLimit},
		{api.OK, api.ErrArg, api.ErrLimit},
		{api.OK, api.ErrArg, api.ErrLimit},
		{api.OK, api.ErrArg, api.ErrLimit},
		{api.OK, api.ErrArg, api.ErrLimit, api.ErrNone, api.ErrState},
		{api.OK, api.ErrArg, api.ErrLimit, api.ErrTwice, api.ErrState, api.ErrScope},
		{api.OK, api.ErrArg, api.ErrLimit},
	} {
		for _, e := range wanted {
			if seen[i][e] < 5 {
				t.Error("function", i, "has hardly the error", e, seen[i])
			}
		}
		if len(seen[i]) != len(wanted) {
			t.Error("function", i, "has other errors", seen[i])
		}
	}
}

// The error of the works comes first, whatever else is asked.
func TestErrorOfWorksFirst(t *testing.T) {
	bad := changed(func(w *api.Works) { w.Slopes[0].Takes = make([]int, 13) })
	q := asked{works: bad, year: -1, slope: -1, list: []api.Worth{{Year: -1}}, areas: areas(square(), square())}
	for i, results := range answers(q) {
		if e := results[len(results)-1]; e != api.ErrLimit {
			t.Error(i, e)
		}
	}
}

func TestManyOfAll(t *testing.T) {
	const many = 1 << 20
	for _, c := range []struct {
		w    api.Works
		want api.Errno
	}{
		{works(1, 1, 1, nil, make([]api.Slope, many)...), api.ErrLimit},
		{works(1, 1, 1, make([]api.Craft, many), good()), api.ErrLimit},
		{works(1, 1, 1, nil, slope(1, 1, 1, 1, make([]int, many)...)), api.ErrLimit},
	} {
		for i, results := range answers(asked{works: c.w}) {
			if e := results[len(results)-1]; e != c.want {
				t.Error(i, e, c.want)
			}
		}
	}
	wide := make([]int, many)
	list := answers(asked{works: example(), plan: plan(wide, wide, wide), thick: wide, list: []api.Worth{worth(0, 0, wide...)}, areas: make([]api.Area, many), coats: make([]api.Coat, many)})
	for i, want := range []api.Errno{api.OK, api.ErrArg, api.OK, api.ErrArg, api.OK, api.OK, api.ErrArg, api.ErrArg, api.OK} {
		if e := list[i][len(list[i])-1]; e != want {
			t.Error(i, e, want)
		}
	}
	if _, _, _, e := mend.Follow(example(), make([][]int, many)); e != api.ErrArg {
		t.Error(e)
	}
	if yes, e := mend.Proves(example(), 0, make([]api.Worth, many)); yes || e != api.ErrLimit {
		t.Error(yes, e)
	}
}

func TestAnyText(t *testing.T) {
	rng := rand.New(rand.NewSource(147))
	parts := []string{"works", "slope", "add", "strip", " ", " ", " ", "\n", "\n", "0", "1", "9", "20", "-", "10", "\xff", "\x00", "ü", exampleText, worksLine, slopeLine, addLine, stripLine}
	good := 0
	for range 20000 {
		text := exampleText
		if rng.Intn(2) == 0 {
			text = ""
			for range rng.Intn(30) {
				text += parts[rng.Intn(len(parts))]
			}
		} else {
			i := rng.Intn(len(text))
			text = text[:i] + parts[rng.Intn(len(parts))] + text[min(len(text), i+rng.Intn(4)):]
		}
		w, line, e := mend.Parse(text)
		if e != api.OK {
			isLine := text != "" && e == api.ErrForm
			if !sameWorks(w, api.Works{}) || line < 0 || line > strings.Count(text, "\n")+1 || (line > 0) != isLine {
				t.Fatalf("%q: %v %d %d", text, w, line, e)
			}
			continue
		}
		good++
		if again, e := mend.Print(w); e != api.OK || line != 0 || again != text && again != text+"\n" {
			t.Fatalf("%q: %q %d %d", text, again, line, e)
		}
	}
	if good < 100 {
		t.Error(good)
	}
}

// sameAnswers reports whether two lists of results are the same, nil lists and empty ones too.
func sameAnswers(t *testing.T, a, b [][]any) {
	t.Helper()
	for i, results := range a {
		for k, x := range results {
			y := b[i][k]
			w, isWorks := x.(api.Works)
			if v, _ := y.(api.Works); isWorks && sameWorks(w, v) {
				continue
			}
			if !reflect.DeepEqual(x, y) && !(isNothing(x) && isNothing(y)) {
				t.Error(i, x, y)
			}
		}
	}
}

// A nil list and an empty one are the same.
func TestNilAndEmpty(t *testing.T) {
	sameAnswers(t, answers(asked{}), answers(asked{works: api.Works{Slopes: []api.Slope{}, Crafts: []api.Craft{}}, plan: plan(), thick: row(), list: []api.Worth{}, areas: areas(), coats: coats()}))
	// without years, crafts and Takes
	none, empty := works(0, 5, 1, nil, slope(1, 1, 1, 1)), works(0, 5, 1, crafts(), slope(1, 1, 1, 1, row()...))
	none.Slopes[0].Takes, empty.Slopes[0].Takes, empty.Crafts = nil, []int{}, []api.Craft{}
	sameAnswers(t, answers(asked{works: none, thick: row(1), areas: areas(square()), coats: coats(api.Coat{})}), answers(asked{works: empty, plan: plan(), thick: row(1), list: []api.Worth{}, areas: areas(square()), coats: coats(api.Coat{Courses: []api.Course{}})}))
	none.Years, empty.Years = 1, 1
	sameAnswers(t, answers(asked{works: none, plan: plan(nil)}), answers(asked{works: empty, plan: plan(row())}))
}

// spent changes a list, and what it has room for.
func spent(list []int) {
	list = list[:cap(list)]
	for i := range list {
		list[i] = -9
	}
}

func spentLists(lists [][]int) {
	for i, list := range lists {
		spent(list)
		for k, other := range lists {
			if k > i && slices.Contains(other, -9) {
				panic("shared")
			}
		}
	}
	clear(lists)
}

func spentWorks(w api.Works) {
	for _, s := range w.Slopes {
		spent(s.Takes)
	}
	clear(w.Slopes[:cap(w.Slopes)])
	clear(w.Crafts[:cap(w.Crafts)])
}

// What is returned shares no memory with the arguments, nor with what another call returns, nor within itself.
func TestNewMemory(t *testing.T) {
	w := works(3, 10, 2, crafts(add(20, 7), strip(30)), slope(50, 30, 60, 2, 15), slope(50, 30, 60, 2, 15))
	want := copyWorks(w)
	text, _ := mend.Print(w)
	begun := copyWorks(w)
	begun.Slopes[0].Now, begun.Slopes[1].Now = 45, 45
	p := plan(row(-1, -1), row(0, 0), row(0, 0))
	for range 2 {
		thick, _, _, _ := mend.Follow(w, p)
		best, _, _, _ := mend.Cheapest(w)
		values, _ := mend.Values(w)
		b, _ := mend.Begin(w, areas(square(), square()), coats(laid(45), laid(45)))
		again, _, _ := mend.Parse(text)
		if !sameLists(thick, plan(row(35, 35), row(40, 40), row(45, 45))) || !sameLists(best, p) || len(values) < 5 || !sameWorks(b, begun) || !sameWorks(again, w) {
			t.Fatal(thick, best, values, b, again)
		}
		spentLists(thick)
		spentLists(best)
		var lists [][]int
		for _, x := range values {
			lists = append(lists, x.Thick)
		}
		spentLists(lists)
		clear(values)
		spentWorks(b)
		spentWorks(again)
	}
	if !sameWorks(w, want) || !sameLists(p, plan(row(-1, -1), row(0, 0), row(0, 0))) {
		t.Error(w, p)
	}
}

// Calls at the same time are each as if it were alone.
func TestAtTheSameTime(t *testing.T) {
	q := asked{works: pair(2), plan: plan(row(0, -1), row(-1, 0), row(-1, 0)), thick: row(40, 30), list: askValues(t, pair(2)), areas: areas(square(), square()), coats: coats(laid(45), laid(45))}
	want := answers(q)
	var all sync.WaitGroup
	for range 8 {
		all.Go(func() {
			for range 20 {
				if got := answers(q); !reflect.DeepEqual(got, want) {
					t.Error(got, want)
				}
			}
		})
	}
	all.Wait()
}
