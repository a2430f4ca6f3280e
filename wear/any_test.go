package wear_test

import (
	"math"
	"math/rand"
	"reflect"
	"slices"
	"strings"
	"sync"
	"testing"

	"thatch/api"
	"thatch/wear"
)

// P0.7, and the rules R1 to R11, for all functions of the package.

// asked is what all functions are given.
type asked struct {
	skin           api.Skin
	at             api.Pt
	reading, wrong int
	take           api.Span
	gain, need     int
	climate        api.Climate
	face           [4]int
}

func copyAsked(q asked) asked {
	q.skin = copySkin(q.skin)
	return q
}

// ofSkin calls the functions that are given a skin, and returns the results of each, with its error behind them.
func ofSkin(q asked) [][]any {
	b, boundsError := wear.Bounds(q.skin, q.at)
	probed, probeError := wear.Probe(q.skin, q.at, q.reading, q.wrong)
	behind, seasonError := wear.Season(q.skin, q.take, q.gain)
	low, lowAt, leastError := wear.Least(q.skin)
	width, widthAt, nextError := wear.Next(q.skin)
	known, keepsError := wear.Keeps(q.skin, q.need)
	count, lastsError := wear.Lasts(q.skin, q.take, q.gain, q.need)
	text, printError := wear.Print(q.skin)
	return [][]any{
		{wear.Check(q.skin)},
		{b, boundsError},
		{probed, probeError},
		{behind, seasonError},
		{low, lowAt, leastError},
		{width, widthAt, nextError},
		{known, keepsError},
		{count, lastsError},
		{text, printError},
	}
}

func answers(q asked) [][]any {
	b, e := wear.Rate(q.climate, q.face[0], q.face[1], q.face[2], q.face[3])
	return append(ofSkin(q), []any{b, e})
}

func anyInt(rng *rand.Rand) int {
	strange := []int{math.MinInt, math.MinInt + 1, -1 << 62, -1 << 31, -2, -1, 0, 0, 1, 2, 3, 5, 12, 13, 40, 41, 100, 101, 400, 401, 1000, 1001, 2000, 2001, 10000, 10001, 1 << 31, 1 << 32, 1<<62 + 1, math.MaxInt}
	return strange[rng.Intn(len(strange))]
}

// numbersOf returns where the numbers of a skin are.
func numbersOf(s *api.Skin) []*int {
	list := []*int{&s.Steep, &s.Thick.Low, &s.Thick.High}
	point := func(p *api.Pt) { list = append(list, &p.U, &p.V) }
	for i := range s.Area.Outline {
		point(&s.Area.Outline[i])
	}
	for i := range s.Area.Holes {
		point(&s.Area.Holes[i].From)
		point(&s.Area.Holes[i].To)
	}
	for i := range s.Marks {
		point(&s.Marks[i].At)
		list = append(list, &s.Marks[i].Thick.Low, &s.Marks[i].Thick.High)
	}
	return list
}

func spoil(rng *rand.Rand, s *api.Skin) {
	switch rng.Intn(10) {
	case 0:
		s.Area.Outline = append(s.Area.Outline, pt(anyInt(rng), anyInt(rng)))
	case 1:
		s.Area.Outline = s.Area.Outline[:rng.Intn(len(s.Area.Outline)+1)]
	case 2:
		s.Area.Holes = append(s.Area.Holes, box(anyInt(rng), anyInt(rng), anyInt(rng), anyInt(rng)))
	case 3:
		s.Marks = append(s.Marks, mark(anyInt(rng), anyInt(rng), anyInt(rng), anyInt(rng)))
	case 4:
		s.Area.Holes = append(s.Area.Holes, slices.Repeat([]api.Box{box(0, 0, 1, 1)}, 7)...)
	case 5:
		s.Marks = append(s.Marks, slices.Repeat(append(s.Marks, mark(0, 0, 1, 2)), 41)...)
	case 6:
		s.Marks = append(s.Marks, s.Marks...)
	case 7:
		for i := range s.Marks {
			s.Marks[i].Thick = randomSpan(rng, 0, 60)
		}
	default:
		list := numbersOf(s)
		*list[rng.Intn(len(list))] = anyInt(rng)
	}
}

func anyAsked(rng *rand.Rand) asked {
	q := asked{
		skin:    randomSkin(rng, []int{5, 12}[rng.Intn(2)]),
		at:      pt(rng.Intn(5), rng.Intn(5)),
		reading: rng.Intn(60),
		wrong:   rng.Intn(60),
		take:    randomSpan(rng, 0, 9),
		gain:    rng.Intn(9),
		need:    rng.Intn(60),
		climate: api.Climate{Take: randomSpan(rng, 0, 900)},
		face:    [4]int{between(rng, 1, 100), between(rng, 1, 100), rng.Intn(101), rng.Intn(101)},
	}
	if rng.Intn(3) == 0 {
		spoil(rng, &q.skin)
	}
	list := []*int{&q.at.U, &q.at.V, &q.reading, &q.wrong, &q.take.Low, &q.take.High, &q.gain, &q.need, &q.climate.Take.Low, &q.climate.Take.High, &q.face[0], &q.face[1], &q.face[2], &q.face[3]}
	for range rng.Intn(4) {
		*list[rng.Intn(len(list))] = anyInt(rng)
	}
	return q
}

// isNothing reports whether a result is its zero value; an empty list is.
func isNothing(x any) bool {
	if s, ok := x.(api.Skin); ok {
		return sameSkin(s, api.Skin{})
	}
	return reflect.ValueOf(x).IsZero()
}

// checkResults makes sure that nothing else comes with an error.
func checkResults(t *testing.T, list [][]any) {
	t.Helper()
	for i, results := range list {
		last := len(results) - 1
		if results[last] == api.OK {
			continue
		}
		for _, x := range results[:last] {
			if !isNothing(x) {
				t.Fatal("with an error", i, results)
			}
		}
	}
}

func TestAny(t *testing.T) {
	rng := rand.New(rand.NewSource(120))
	seen := map[any]int{}
	for range 4000 {
		q := anyAsked(rng)
		before := copyAsked(q)
		list := answers(q)
		if again := answers(q); !reflect.DeepEqual(list, again) {
			t.Fatal("not the same again", q, list, again)
		}
		if !reflect.DeepEqual(q, before) {
			t.Fatal("changed", before, q)
		}
		checkResults(t, list)
		first := list[0][0]
		for i, results := range ofSkin(q) {
			if first != api.OK && results[len(results)-1] != first {
				t.Fatal("function", i, "has not the first error", results, first)
			}
		}
		seen[first]++
	}
	for _, e := range []api.Errno{api.OK, api.ErrArg, api.ErrLimit, api.ErrTwice, api.ErrNone, api.ErrState, api.ErrScope, api.ErrClash} {
		if seen[e] == 0 {
			t.Error("no skin with the error", e)
		}
	}
	if seen[api.OK] < 1500 {
		t.Error(seen)
	}
}

// The error of the skin comes first, whatever else is asked.
func TestErrorOfSkinFirst(t *testing.T) {
	q := asked{skin: changed(func(s *api.Skin) { s.Marks[0].Thick = span(80, 99) }), at: pt(6, 3), reading: -1, wrong: -1, take: span(5, 4), gain: -1, need: -1}
	for i, results := range ofSkin(q) {
		if e := results[len(results)-1]; e != api.ErrClash {
			t.Error(i, e)
		}
	}
}

func TestManyOfAll(t *testing.T) {
	const many = 1 << 20
	for _, c := range []struct {
		s    api.Skin
		want api.Errno
	}{
		{of(api.Area{Outline: make([]api.Pt, many)}, 0, span(0, 1)), api.ErrArg},
		{of(rectangle(0, 0, 9, 9, make([]api.Box, many)...), 0, span(0, 1)), api.ErrLimit},
		{of(rectangle(0, 0, 9, 9), 0, span(0, 1), make([]api.Mark, many)...), api.ErrLimit},
	} {
		for i, results := range ofSkin(asked{skin: c.s}) {
			if e := results[len(results)-1]; e != c.want {
				t.Error(i, e, c.want)
			}
		}
	}
}

func TestAnyText(t *testing.T) {
	rng := rand.New(rand.NewSource(121))
	parts := []string{"skin", "corner", "hole", "mark", " ", " ", " ", "\n", "\n", "0", "1", "9", "20", "-", "10", "\xff", "\x00", "ü", exampleText, skinLine, corners, holeLine, markLine}
	good := 0
	for range 20000 {
		text := exampleText
		if rng.Intn(2) == 0 {
			text = ""
			for range rng.Intn(30) {
				text += parts[rng.Intn(len(parts))]
			}
		} else {
			i := rng.Intn(len(text))
			text = text[:i] + parts[rng.Intn(len(parts))] + text[min(len(text), i+rng.Intn(4)):]
		}
		s, line, e := wear.Parse(text)
		if e != api.OK {
			isLine := text != "" && e == api.ErrForm
			if !sameSkin(s, api.Skin{}) || line < 0 || line > strings.Count(text, "\n")+1 || (line > 0) != isLine {
				t.Fatalf("%q: %v %d %d", text, s, line, e)
			}
			continue
		}
		good++
		if again, e := wear.Print(s); e != api.OK || line != 0 || again != text && again != text+"\n" {
			t.Fatalf("%q: %q %d %d", text, again, line, e)
		}
	}
	if good < 100 {
		t.Error(good)
	}
}

// A nil list and an empty one are the same.
func TestNilAndEmpty(t *testing.T) {
	bare := func(holes []api.Box, marks []api.Mark) asked {
		return asked{skin: of(rectangle(0, 0, 9, 9, holes...), 2, span(5, 50), marks...), at: pt(3, 4), reading: 20, need: 9}
	}
	none, empty := bare(nil, nil), bare([]api.Box{}, []api.Mark{})
	if none.skin.Marks != nil || empty.skin.Marks == nil || empty.skin.Area.Holes == nil {
		t.Fatal("both are the same")
	}
	other := answers(none)
	for i, results := range answers(empty) {
		for k, x := range results {
			a, isSkin := x.(api.Skin)
			if b, _ := other[i][k].(api.Skin); isSkin && !sameSkin(a, b) || !isSkin && x != other[i][k] {
				t.Error(i, x, other[i][k])
			}
		}
	}
	for _, list := range [][]api.Pt{nil, {}} {
		if e := wear.Check(of(api.Area{Outline: list}, 0, api.Span{})); e != api.ErrArg {
			t.Error(e)
		}
	}
}

// spend changes a skin, and what its lists have room for.
func spend(s api.Skin) {
	clear(s.Area.Outline[:cap(s.Area.Outline)])
	clear(s.Area.Holes[:cap(s.Area.Holes)])
	clear(s.Marks[:cap(s.Marks)])
}

// What is returned shares no memory with the arguments, nor with what another call returns.
func TestNewMemory(t *testing.T) {
	roomy := example()
	roomy.Marks = append(make([]api.Mark, 0, 9), roomy.Marks...)
	roomy.Area.Holes = append(make([]api.Box, 0, 9), roomy.Area.Holes...)
	probed := example()
	probed.Marks = append(probed.Marks, mark(20, 10, 140, 160))
	narrowed := example()
	narrowed.Marks[0].Thick = span(190, 200)
	for range 2 {
		for _, c := range []struct {
			next func() (api.Skin, api.Errno)
			want api.Skin
		}{
			{func() (api.Skin, api.Errno) { return wear.Probe(roomy, pt(20, 10), 150, 10) }, probed},
			{func() (api.Skin, api.Errno) { return wear.Probe(roomy, pt(0, 0), 200, 10) }, narrowed},
			{func() (api.Skin, api.Errno) { return wear.Season(roomy, span(0, 0), 0) }, example()},
			{func() (api.Skin, api.Errno) { s, _, e := wear.Parse(exampleText); return s, e }, example()},
		} {
			s, e := c.next()
			if e != api.OK || !sameSkin(s, c.want) {
				t.Fatal(s, e)
			}
			spend(s)
		}
	}
	if !sameSkin(roomy, example()) || roomy.Marks[:2][1] != (api.Mark{}) {
		t.Error(roomy)
	}
}

// Calls at the same time are each as if it were alone.
func TestAtTheSameTime(t *testing.T) {
	q := asked{skin: example(), at: pt(20, 10), reading: 150, wrong: 10, take: span(5, 8), gain: 1, need: 70, climate: api.Climate{Take: span(1, 2)}, face: [4]int{1, 2, 3, 4}}
	want := answers(q)
	var all sync.WaitGroup
	for range 8 {
		all.Go(func() {
			for range 20 {
				if got := answers(q); !reflect.DeepEqual(got, want) {
					t.Error(got, want)
				}
			}
		})
	}
	all.Wait()
}
