package yard_test

import (
	"math"
	"math/rand"
	"reflect"
	"slices"
	"strings"
	"sync"
	"testing"

	"thatch/api"
	"thatch/yard"
)

// P0.7, and the rules R1 to R11, for all functions of the package.

// asked is what all functions are given. Its fields can be set by their numbers.
type asked struct {
	Crew                  api.Crew
	Starts                []int
	Roof                  api.Roof
	Rule                  api.Custom
	Bundles               api.Make
	Farm                  api.Farm
	Crop                  api.Crop
	Per                   int
	Fixed, Square, Bundle int
	Area                  api.Area
	Coats                 []api.Coat
	Book                  api.Book
	Page                  api.Page
	Question              string
	Paper                 api.Paper
	Text                  string
}

// answers calls every function, and returns the results of each, with its error behind them.
func answers(q asked) [][]any {
	days, takesError := yard.Takes(q.Crew, q.Starts)
	starts, fewest, fastestError := yard.Fastest(q.Crew)
	bound, boundError := yard.Bound(q.Crew)
	coats, need, bundles, thatchError := yard.Thatch(q.Roof, q.Rule, q.Bundles)
	fields, cost, found, supplyError := yard.Supply(q.Roof, q.Rule, q.Bundles, q.Farm, q.Crop, q.Per)
	price, priceError := yard.Price(q.Roof, q.Rule, q.Bundles, q.Fixed, q.Square, q.Bundle)
	sheets, judgeError := yard.Judge(q.Area, q.Rule, q.Coats)
	read, line, readError := yard.Read(q.Text)
	text, printError := yard.Print(q.Book)
	turned, turnError := yard.Turn(q.Book, q.Page)
	answer, paper, askError := yard.Ask(q.Book, q.Question)
	told, papers, wrong, runError := yard.Run(q.Text)
	return [][]any{
		{yard.CheckCrew(q.Crew)},
		{days, takesError},
		{starts, fewest, fastestError},
		{bound, boundError},
		{coats, need, bundles, thatchError},
		{fields, cost, found, supplyError},
		{price, priceError},
		{sheets, judgeError},
		{read, line, readError},
		{text, printError},
		{turned, turnError},
		{answer, paper, askError},
		{told, papers, wrong, runError},
		{yard.Verify(q.Paper)},
	}
}

// readAnswer and runAnswer are where the answers of Read and Run are, which tell a line with an error.
const (
	readAnswer = 8
	runAnswer  = 12
)

func anyInt(rng *rand.Rand) int {
	strange := []int{math.MinInt, math.MinInt + 1, -1 << 62, -1 << 31, -401, -2, -1, 0, 0, 1, 2, 3, 5, 6, 7, 12, 13, 100, 101, 400, 401, 1000, 1001, 10000, 100000, 1 << 32, 1<<62 + 1, math.MaxInt}
	return strange[rng.Intn(len(strange))]
}

func anyWord(rng *rand.Rand) string {
	list := []string{"", "a", "c", "k", "q", "-", "A", "\xff", "ö", "a b", "a\n", "page", "page coat x\n", "course 0\n", "course 0", "leak a c", "crew k", "fire g 5 c", "skin s 1 ", strings.Repeat("a", 17), strings.Repeat("a", 1<<16), strings.Repeat("course 0\n", 1<<13)}
	return list[rng.Intn(len(list))]
}

// spoil changes one number, word or list anywhere in a value, now and then a list as a whole.
func spoil(rng *rand.Rand, v reflect.Value) {
	switch v.Kind() {
	case reflect.Struct:
		spoil(rng, v.Field(rng.Intn(v.NumField())))
	case reflect.Slice:
		if v.Len() > 0 && rng.Intn(4) > 0 {
			spoil(rng, v.Index(rng.Intn(v.Len())))
			return
		}
		count := []int{0, 1, 2, v.Len() + 1, 7, 13, 33, 100}[rng.Intn(8)]
		list := reflect.MakeSlice(v.Type(), count, count)
		reflect.Copy(list, v)
		v.Set(list)
	case reflect.Int:
		v.SetInt(int64(anyInt(rng)))
	case reflect.Uint8:
		v.SetUint(uint64(rng.Intn(256)))
	case reflect.Bool:
		v.SetBool(!v.Bool())
	case reflect.String:
		v.SetString(anyWord(rng))
	}
}

func good() asked {
	return asked{
		Crew: example(), Starts: list(0, 2, 2), Roof: house(), Rule: rule(), Bundles: bundles(), Farm: farm(), Crop: api.CrReed, Per: 1,
		Fixed: 1, Square: 2, Bundle: 3, Area: square(), Coats: []api.Coat{pair(), {}}, Book: full(), Page: page(api.PgCoat, "d", coatText),
		Question: "crew k", Text: fullText + "page ask q\ncrew k\nleak a c\n",
	}
}

func anyAsked(t *testing.T, rng *rand.Rand) asked {
	q := good()
	q.Question = questions()[rng.Intn(len(questions()))]
	if rng.Intn(2) == 0 {
		q.Text = fullText
	}
	q.Text = shaken(rng, q.Text)
	for q.Paper.Kind == api.PaNone {
		_, q.Paper = askBook(t, full(), questions()[rng.Intn(len(questions()))])
	}
	q = copied(q)
	for range rng.Intn(6) {
		v := reflect.ValueOf(&q).Elem()
		spoil(rng, v.Field(rng.Intn(v.NumField())))
	}
	return q
}

// checkResults makes sure that nothing else comes with an error, but for a line.
func checkResults(t *testing.T, list [][]any) {
	t.Helper()
	for i, results := range list {
		last := len(results) - 1
		if results[last] == api.OK {
			continue
		}
		if i == readAnswer || i == runAnswer {
			last--
		}
		for _, x := range results[:last] {
			if !isNothing(x) {
				t.Fatal("with an error", i, results)
			}
		}
	}
}

func TestAny(t *testing.T) {
	rng := rand.New(rand.NewSource(176))
	seen := map[int]map[any]int{}
	for range 2500 {
		q := anyAsked(t, rng)
		before := copied(q)
		list := answers(q)
		if again := answers(q); !reflect.DeepEqual(list, again) {
			t.Fatal("not the same again", q, list, again)
		}
		if !same(q, before) {
			t.Fatal("changed", before, q)
		}
		checkResults(t, list)
		for i, results := range list {
			if seen[i] == nil {
				seen[i] = map[any]int{}
			}
			seen[i][results[len(results)-1]]++
		}
	}
	crewErrors := []api.Errno{api.OK, api.ErrArg, api.ErrLimit, api.ErrName, api.ErrNone, api.ErrScope}
	for i, wanted := range [][]api.Errno{
		crewErrors,
		append(crewErrors, api.ErrState),
		crewErrors,
		crewErrors,
		{api.OK, api.ErrLimit, api.ErrName, api.ErrArg, api.ErrScope},
		{api.OK, api.ErrLimit, api.ErrName, api.ErrArg, api.ErrScope},
		{api.OK, api.ErrLimit, api.ErrName, api.ErrArg, api.ErrScope},
		{api.OK, api.ErrArg, api.ErrLimit, api.ErrScope, api.ErrState},
		{api.OK, api.ErrForm, api.ErrLimit, api.ErrArg, api.ErrScope},
		{api.OK, api.ErrArg, api.ErrLimit, api.ErrName, api.ErrTwice, api.ErrForm},
		{api.OK, api.ErrArg, api.ErrLimit, api.ErrName, api.ErrTwice, api.ErrForm},
		{api.OK, api.ErrArg, api.ErrLimit, api.ErrName, api.ErrTwice, api.ErrForm},
		{api.OK, api.ErrForm, api.ErrLimit, api.ErrArg, api.ErrScope},
		{api.OK, api.ErrArg, api.ErrState},
	} {
		for _, e := range wanted {
			if seen[i][e] < 2 {
				t.Error("function", i, "has hardly the error", e, seen[i])
			}
		}
	}
}

func TestManyOfAll(t *testing.T) {
	const many = 1 << 20
	wide := make([]int, many)
	q := good()
	q.Crew.Tasks, q.Roof.Faces, q.Coats, q.Book.Pages = make([]api.Task, many), make([]api.Face, many), make([]api.Coat, many), make([]api.Page, many)
	q.Question, q.Text = strings.Repeat("a ", many), strings.Repeat("page coat c\n", many)
	q.Paper = api.Paper{Kind: api.PaFire, Numbers: wide, Sites: wide, Plan: make([][]int, many)}
	for i, want := range []api.Errno{api.ErrLimit, api.ErrLimit, api.ErrLimit, api.ErrLimit, api.ErrLimit, api.ErrLimit, api.ErrLimit, api.ErrLimit, api.ErrLimit, api.ErrArg, api.ErrArg, api.ErrArg, api.ErrLimit, api.ErrState} {
		results := answers(q)[i]
		if e := results[len(results)-1]; e != want {
			t.Error(i, e, want)
		}
	}
	q = good()
	q.Starts, q.Question = wide, "fire g 5"+strings.Repeat(" c", many)
	q.Crew.Tasks[1].After = wide
	q.Book = book(page(api.PgGround, "g", groundText))
	q.Page = page(api.PgCoat, "c", strings.Repeat("course 0\n", many))
	for i, want := range map[int]api.Errno{1: api.ErrArg, 2: api.ErrArg, 10: api.ErrLimit, 11: api.OK} {
		results := answers(q)[i]
		if e := results[len(results)-1]; e != want {
			t.Error(i, e, want)
		}
	}
	crewOf := page(api.PgCrew, "k", "crew 1 1\ntask a 1 1 1"+strings.Repeat(" 0", many)+"\n")
	for _, p := range []api.Page{crewOf, page(api.PgArea, "a", strings.Repeat("corner 0 0\n", many)), page(api.PgRule, "m", strings.Repeat("\n", many))} {
		if _, e := yard.Turn(book(), p); e == api.OK {
			t.Error(p.Kind, e)
		}
	}
}

func TestAnyText(t *testing.T) {
	rng := rand.New(rand.NewSource(177))
	parts := []string{"page", "ask", "coat", "c", "q", " ", " ", " ", "\n", "\n", "\n", "0", "1", "-", "10", "\xff", "\x00", "ü", "leak a c", "crew k", fullText, "page coat d\n", "course 5\n", "page ask q\n", ruleText, "page rule m2\n"}
	good, wrong := 0, map[api.Errno]int{}
	for range 10000 {
		text := fullText
		if rng.Intn(3) == 0 {
			text = ""
			for range rng.Intn(30) {
				text += parts[rng.Intn(len(parts))]
			}
		} else {
			i := rng.Intn(len(text))
			text = text[:i] + parts[rng.Intn(len(parts))] + text[min(len(text), i+rng.Intn(4)):]
		}
		b, line, e := yard.Read(text)
		answers, papers, runLine, runError := yard.Run(text)
		if runError != api.OK && (len(answers) > 0 || len(papers) > 0 || runLine < 1 || runLine > strings.Count(text, "\n")+1) {
			t.Fatalf("%q: %q %v %d %d", text, answers, papers, runLine, runError)
		}
		if e != api.OK {
			wrong[e]++
			if !isNothing(b) || line < 1 || line > strings.Count(text, "\n")+1 {
				t.Fatalf("%q: %v %d %d", text, b, line, e)
			}
			continue
		}
		good++
		if again, e := yard.Print(b); e != api.OK || line != 0 || again != text && again != text+"\n" || runError != api.OK || len(answers) > 0 {
			t.Fatalf("%q: %q %d %d %d", text, again, line, e, runError)
		}
	}
	if good < 200 || wrong[api.ErrForm] < 1000 || wrong[api.ErrName] < 20 || wrong[api.ErrTwice] < 20 || wrong[api.ErrArg] < 20 {
		t.Error(good, wrong)
	}
}

// A nil list and an empty one are the same.
func TestNilAndEmpty(t *testing.T) {
	none := asked{Text: "page ask q\n"}
	empty := none
	empty.Crew.Tasks, empty.Starts, empty.Coats, empty.Book.Pages = []api.Task{}, list(), []api.Coat{}, []api.Page{}
	empty.Roof = api.Roof{Faces: []api.Face{}, Opens: []api.Open{}}
	empty.Farm.Plots, empty.Area = []api.Plot{}, api.Area{Outline: []api.Pt{}, Holes: []api.Box{}}
	for i, results := range answers(none) {
		if !same(results[len(results)-1], answers(empty)[i][len(results)-1]) {
			t.Error(i, results, answers(empty)[i])
		}
	}
	papers := []api.Paper{
		{Kind: api.PaKept, Area: square(), Rule: simple(), Coat: single(1, 5)},
		{Kind: api.PaDry, Area: square()},
		{Kind: api.PaHolds},
		{Kind: api.PaFields},
		{Kind: api.PaCrew, Crew: crew(3, 3)},
		{Kind: api.PaFire, Plan: [][]int{nil}},
	}
	for _, p := range papers {
		full := copied(p)
		full.Coat.Courses = append([]api.Course{}, p.Coat.Courses...)
		full.Numbers, full.Sites, full.Farm.Plots, full.Crew.Tasks = list(), list(), []api.Plot{}, []api.Task{}
		full.Net = api.Net{Things: []api.Thing{}, Ties: []api.Tie{}}
		full.Ground = api.Ground{Sites: []string{}, Paths: []api.Path{}, Strips: []api.Strip{}, Sparks: []api.Spark{}}
		if len(full.Plan) > 0 {
			full.Plan[0] = list()
		}
		if e, f := yard.Verify(p), yard.Verify(full); e != api.OK || f != api.OK {
			t.Error(p.Kind, e, f)
		}
	}
}

// What is returned shares no memory with the arguments, nor with what another call returns, nor within itself.
func TestNewMemory(t *testing.T) {
	q := good()
	q.Crew.Tasks = slices.Grow(q.Crew.Tasks, 9)
	q.Book.Pages = slices.Grow(q.Book.Pages, 9)
	q.Text = fullText + "page ask q\n" + strings.Repeat(strings.Join(questions(), "\n")+"\n", 2)
	values := []any{q.Crew, q.Starts, q.Roof, q.Farm, q.Area, q.Coats, q.Book}
	for range 2 {
		for _, results := range answers(q) {
			values = append(values, results...)
		}
		for _, question := range questions() {
			_, p := askBook(t, q.Book, question)
			values = append(values, p)
		}
	}
	shareNothing(t, values...)
	same := book(q.Book.Pages...)
	turned, _ := yard.Turn(same, page(api.PgCoat, "c", ""))
	shareNothing(t, same, turned)
}

// Calls at the same time are each as if it were alone.
func TestAtTheSameTime(t *testing.T) {
	q := good()
	_, q.Paper = askBook(t, full(), "fire g 40 c")
	q.Text = fullText + "page ask q\n" + strings.Join(questions(), "\n")
	want := answers(q)
	var all sync.WaitGroup
	for range 8 {
		all.Go(func() {
			for range 5 {
				if got := answers(q); !reflect.DeepEqual(got, want) {
					t.Error(got, want)
				}
			}
		})
	}
	all.Wait()
}
