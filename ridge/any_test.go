package ridge_test

import (
	"math"
	"math/rand"
	"reflect"
	"slices"
	"strings"
	"sync"
	"testing"

	"thatch/api"
	"thatch/ridge"
)

// P0.7, and the rules R1 to R11, for all functions of the package.

// asked is what all functions are given.
type asked struct {
	ridge   api.Ridge
	row     []int
	k       int
	rods    api.Rods
	weights []int
}

func copyAsked(q asked) asked {
	return asked{copyRidge(q.ridge), slices.Clone(q.row), q.k, copyRods(q.rods), slices.Clone(q.weights)}
}

// ofRidge calls the functions that are given a ridge, and returns the results of each, with its error behind them.
func ofRidge(q asked) [][]any {
	ok, fitsError := ridge.Fits(q.ridge, q.row)
	ways, waysError := ridge.Ways(q.ridge)
	row, nthError := ridge.Nth(q.ridge, q.k)
	number, rankError := ridge.Rank(q.ridge, q.row)
	even, evenError := ridge.Even(q.ridge)
	counts, needsError := ridge.Needs(q.ridge, q.row)
	text, printError := ridge.Print(q.ridge)
	return [][]any{
		{ridge.Check(q.ridge)},
		{ok, fitsError},
		{ways, waysError},
		{row, nthError},
		{number, rankError},
		{even, evenError},
		{counts, needsError},
		{text, printError},
	}
}

// ofRods calls those that are given rods.
func ofRods(q asked) [][]any {
	plan, planError := ridge.Plan(q.rods)
	least, boundError := ridge.Bound(q.rods, q.weights)
	most, weights, lowerError := ridge.Lower(q.rods)
	return [][]any{
		{ridge.CheckRods(q.rods)},
		{plan, planError},
		{least, boundError},
		{most, weights, lowerError},
	}
}

func answers(q asked) [][]any { return slices.Concat(ofRidge(q), ofRods(q)) }

// isNothing reports whether a result is its zero value; an empty list is.
func isNothing(x any) bool {
	v := reflect.ValueOf(x)
	return v.IsZero() || v.Kind() == reflect.Slice && v.Len() == 0
}

func anyInt(rng *rand.Rand) int {
	strange := []int{math.MinInt, math.MinInt + 1, -1 << 62, -1 << 31, -2, -1, 0, 0, 1, 2, 3, 9, 10, 12, 13, 2000, 2001, 100000, 100001, 1000000, 1000001, 1 << 31, 1 << 32, 1<<62 + 1, math.MaxInt}
	return strange[rng.Intn(len(strange))]
}

func anyName(rng *rand.Rand) string {
	names := []string{"", "a", "p0", "p1", "-", "A", "\xff", "ö", "a b", "a\n", strings.Repeat("a", 16), strings.Repeat("a", 17), strings.Repeat("a", 1<<16)}
	return names[rng.Intn(len(names))]
}

// anyList has numbers below a count, and some others.
func anyList(rng *rand.Rand, length, count int) []int {
	var list []int
	for range length {
		n := rng.Intn(max(1, count))
		if rng.Intn(8) == 0 {
			n = anyInt(rng)
		}
		list = append(list, n)
	}
	return list
}

func spoilRidge(rng *rand.Rand, r *api.Ridge) {
	numbers := []*int{&r.Length, &r.Start, &r.End}
	if len(r.Pieces) > 0 {
		p := &r.Pieces[rng.Intn(len(r.Pieces))]
		numbers = append(numbers, &p.Width, &p.Left, &p.Right, &p.Mirror, &p.Mirror)
		if rng.Intn(4) == 0 {
			p.Name = anyName(rng)
			return
		}
	}
	if rng.Intn(6) == 0 {
		r.Pieces = append(r.Pieces, piece("q", 1, 0, 0, anyInt(rng)))
		return
	}
	*numbers[rng.Intn(len(numbers))] = anyInt(rng)
}

func spoilRods(rng *rand.Rand, r *api.Rods) {
	numbers := []*int{&r.Stock, &r.Kerf}
	for i := range r.Cuts {
		numbers = append(numbers, &r.Cuts[i].Length, &r.Cuts[i].Many)
	}
	*numbers[rng.Intn(len(numbers))] = anyInt(rng)
	if rng.Intn(4) == 0 {
		r.Cuts = append(r.Cuts, cut(anyInt(rng), anyInt(rng)))
	}
}

func anyAsked(rng *rand.Rand) asked {
	q := asked{ridge: randomRidge(rng, []size{small, long, whole}[rng.Intn(3)]), rods: someRods(rng)}
	if rng.Intn(3) == 0 {
		spoilRidge(rng, &q.ridge)
	}
	if rng.Intn(3) == 0 {
		spoilRods(rng, &q.rods)
	}
	q.k = between(rng, -1, 20)
	if rng.Intn(8) == 0 {
		q.k = anyInt(rng)
	}
	q.row, _ = ridge.Nth(q.ridge, rng.Intn(20))
	if rng.Intn(3) == 0 {
		q.row = anyList(rng, rng.Intn(8), len(q.ridge.Pieces))
	}
	q.weights = anyList(rng, max(0, len(q.rods.Cuts)+max(-1, rng.Intn(12)-10)), 20)
	return q
}

// checkResults makes sure that an error of what all of these functions are given is that of each of them, and that nothing else comes with an error.
func checkResults(t *testing.T, list [][]any) {
	t.Helper()
	first := list[0][0]
	for i, results := range list {
		last := len(results) - 1
		if first != api.OK && results[last] != first {
			t.Fatal("function", i, "has not the first error", results, first)
		}
		if results[last] == api.OK {
			continue
		}
		for _, x := range results[:last] {
			if !isNothing(x) {
				t.Fatal("with an error", i, results)
			}
		}
	}
}

func TestAny(t *testing.T) {
	rng := rand.New(rand.NewSource(93))
	ridges, rods := map[any]int{}, map[any]int{}
	for range 3000 {
		q := anyAsked(rng)
		before := copyAsked(q)
		list := answers(q)
		if again := answers(q); !reflect.DeepEqual(list, again) {
			t.Fatal("not the same again", q, list, again)
		}
		if !reflect.DeepEqual(q, before) {
			t.Fatal("changed", before, q)
		}
		some := ofRidge(q)
		checkResults(t, some)
		ridges[some[0][0]]++
		some = ofRods(q)
		checkResults(t, some)
		rods[some[0][0]]++
	}
	for _, e := range []api.Errno{api.OK, api.ErrArg, api.ErrLimit, api.ErrName, api.ErrTwice, api.ErrNone, api.ErrClash} {
		if ridges[e] == 0 {
			t.Error("no ridge with the error", e)
		}
	}
	for _, e := range []api.Errno{api.OK, api.ErrArg, api.ErrLimit, api.ErrScope} {
		if rods[e] == 0 {
			t.Error("no rods with the error", e)
		}
	}
	if ridges[api.OK] < 1000 || rods[api.OK] < 1000 {
		t.Error(ridges, rods)
	}
}

// The error of the ridge, or of the rods, comes first, whatever else is asked.
func TestErrorOfRidgeFirst(t *testing.T) {
	far := plain(2000, 10, 1)
	far.Pieces[3].Mirror = 4
	for i, results := range ofRidge(asked{ridge: far, row: []int{-1}, k: -1}) {
		if e := results[len(results)-1]; e != api.ErrClash {
			t.Error(i, e)
		}
	}
	for i, results := range ofRods(asked{rods: rods(10, 1, cut(11, 1)), weights: []int{-1, -1}}) {
		if e := results[len(results)-1]; e != api.ErrScope {
			t.Error(i, e)
		}
	}
}

func TestManyOfAll(t *testing.T) {
	const many = 1 << 20
	if e := ridge.Check(of(5, 0, 0, make([]api.Piece, many)...)); e != api.ErrLimit {
		t.Error(e)
	}
	if e := ridge.CheckRods(rods(5, 0, make([]api.Cut, many)...)); e != api.ErrLimit {
		t.Error(e)
	}
	if askFits(t, example(), make([]int, many)) {
		t.Error("a row of very many fits")
	}
	if askFits(t, api.Ridge{}, make([]int, many)) {
		t.Error("a row of pieces that are none fits")
	}
	if n, e := ridge.Bound(exampleRods(), make([]int, many)); n != 0 || e != api.ErrArg {
		t.Error(n, e)
	}
}

func TestAnyText(t *testing.T) {
	rng := rand.New(rand.NewSource(94))
	parts := []string{"ridge", "piece", "one", "up", "down", " ", " ", " ", "\n", "\n", "a", "0", "1", "9", "-", "10", "\xff", "\x00", "ü", exampleText, ridgeLine, upLine, downLine, ownLine}
	good := 0
	for range 20000 {
		text := exampleText
		if rng.Intn(2) == 0 {
			text = ""
			for range rng.Intn(30) {
				text += parts[rng.Intn(len(parts))]
			}
		} else {
			i := rng.Intn(len(text))
			text = text[:i] + parts[rng.Intn(len(parts))] + text[min(len(text), i+rng.Intn(4)):]
		}
		r, line, e := ridge.Parse(text)
		if e != api.OK {
			isLine := text != "" && (e == api.ErrForm || e == api.ErrNone)
			if !sameRidge(r, api.Ridge{}) || line < 0 || line > strings.Count(text, "\n")+1 || (line > 0) != isLine {
				t.Fatalf("%q: %v %d %d", text, r, line, e)
			}
			continue
		}
		good++
		if s, e := ridge.Print(r); e != api.OK || line != 0 || s != text && s != text+"\n" {
			t.Fatalf("%q: %q %d %d", text, s, line, e)
		}
	}
	if good < 100 {
		t.Error(good)
	}
}

// A nil list and an empty one are the same.
func TestNilAndEmpty(t *testing.T) {
	none := asked{rods: rods(10, 1)}
	empty := asked{ridge: api.Ridge{Pieces: []api.Piece{}}, row: []int{}, rods: rods(10, 1, []api.Cut{}...), weights: []int{}}
	other := answers(none)
	for i, results := range answers(empty) {
		for k, x := range results {
			if !reflect.DeepEqual(x, other[i][k]) && !(isNothing(x) && isNothing(other[i][k])) {
				t.Error(i, x, other[i][k])
			}
		}
	}
}

// spent changes a list, and what it has room for.
func spent(list []int) {
	list = list[:cap(list)]
	for i := range list {
		list[i] = -9
	}
}

// What is returned shares no memory with the arguments, nor with what another call returns, nor within itself.
func TestNewMemory(t *testing.T) {
	r, saw := example(), exampleRods()
	row, weights := []int{0, 2, 3, 1}, []int{2, 1, 1}
	for range 2 {
		nth, _ := ridge.Nth(r, 14)
		counts, _ := ridge.Needs(r, row)
		plan, _ := ridge.Plan(saw)
		_, fold, _ := ridge.Lower(saw)
		parsed, _, _ := ridge.Parse(exampleText)
		if !slices.Equal(nth, []int{1, 1, 0}) || !slices.Equal(counts, []int{1, 1, 1, 1}) || !isPlan(saw, plan) || !slices.Equal(fold, weights) || !sameRidge(parsed, r) {
			t.Fatal(nth, counts, plan, fold, parsed)
		}
		for len(plan) > 1 {
			spent(plan[0])
			plan = plan[1:]
			if slices.Contains(plan[0], -9) {
				t.Error("two patterns share memory", plan)
			}
		}
		for _, list := range [][]int{nth, counts, plan[0], fold} {
			spent(list)
		}
		clear(parsed.Pieces)
	}
	if !sameRidge(r, example()) || !slices.Equal(saw.Cuts, exampleRods().Cuts) || !slices.Equal(row, []int{0, 2, 3, 1}) {
		t.Error(r, saw, row)
	}
}

// Calls at the same time are each as if it were alone.
func TestAtTheSameTime(t *testing.T) {
	q := asked{example(), []int{0, 2, 3, 1}, 14, exampleRods(), []int{2, 1, 1}}
	want := answers(q)
	var all sync.WaitGroup
	for range 8 {
		all.Go(func() {
			for range 20 {
				if got := answers(q); !reflect.DeepEqual(got, want) {
					t.Error(got, want)
				}
			}
		})
	}
	all.Wait()
}
