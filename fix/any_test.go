package fix_test

import (
	"math"
	"math/rand"
	"reflect"
	"slices"
	"strings"
	"sync"
	"testing"

	"thatch/api"
	"thatch/fix"
)

// P0.7, and the rules R1 to R11, for all functions of the package.

// asked is what all functions are given.
type asked struct {
	n           api.Net
	shares, cut []int
	offers      []api.Tie
}

func copyAsked(q asked) asked {
	return asked{copyNet(q.n), slices.Clone(q.shares), slices.Clone(q.cut), slices.Clone(q.offers)}
}

// answers calls every function but Parse, and returns the results of each, with its error behind them.
func answers(q asked) [][]any {
	carries, carriesError := fix.Carries(q.n, q.shares)
	breaks, breaksError := fix.Breaks(q.n, q.cut)
	shares, cut, holds, holdsError := fix.Holds(q.n)
	f, most, least, factorError := fix.Factor(q.n)
	weak, weakError := fix.Weak(q.n)
	chosen, found, addError := fix.Add(q.n, q.offers)
	text, printError := fix.Print(q.n)
	return [][]any{
		{fix.Check(q.n)},
		{carries, carriesError},
		{breaks, breaksError},
		{shares, cut, holds, holdsError},
		{f, most, least, factorError},
		{weak, weakError},
		{chosen, found, addError},
		{text, printError},
	}
}

// isNothing reports whether a result is its zero value; an empty list is.
func isNothing(x any) bool {
	v := reflect.ValueOf(x)
	return v.IsZero() || v.Kind() == reflect.Slice && v.Len() == 0
}

func anyInt(rng *rand.Rand) int {
	strange := []int{math.MinInt, math.MinInt + 1, -1 << 62, -1 << 31, -2, -1, 0, 0, 1, 2, 3, 10, 23, 24, 25, 63, 64, 65, 100000, 100001, 1000000, 1000001, 1 << 31, 1 << 32, 1<<62 + 1, math.MaxInt}
	return strange[rng.Intn(len(strange))]
}

func anyName(rng *rand.Rand) string {
	names := []string{"", "a", "t0", "t1", "-", "A", "\xff", "ö", "a b", "a\n", strings.Repeat("a", 16), strings.Repeat("a", 17), strings.Repeat("a", 1<<16)}
	return names[rng.Intn(len(names))]
}

func anyTie(rng *rand.Rand) api.Tie { return tie(anyInt(rng), anyInt(rng), anyInt(rng)) }

func anyList(rng *rand.Rand, count int) []int {
	var list []int
	for range count + rng.Intn(3) - 1 {
		n := rng.Intn(3)
		if rng.Intn(8) == 0 {
			n = anyInt(rng)
		}
		list = append(list, n)
	}
	return list
}

func spoilTie(rng *rand.Rand, x *api.Tie) {
	numbers := []*int{&x.From, &x.To, &x.Most}
	*numbers[rng.Intn(3)] = anyInt(rng)
}

func spoil(rng *rand.Rand, n *api.Net) {
	i := rng.Intn(len(n.Things))
	switch x := &n.Things[i]; rng.Intn(8) {
	case 0:
		x.Name = anyName(rng)
	case 1:
		x.Weight = anyInt(rng)
	case 2:
		x.Bears = anyInt(rng)
	case 3:
		x.Ground = !x.Ground
	case 4:
		n.Ties = append(n.Ties, anyTie(rng))
	case 5:
		n.Things = append(n.Things, *x)
	default:
		if len(n.Ties) > 0 {
			spoilTie(rng, &n.Ties[rng.Intn(len(n.Ties))])
		}
	}
}

func anyAsked(rng *rand.Rand) asked {
	n, offers := randomOffered(rng, []size{small, some, heavy}[rng.Intn(3)], rng.Intn(5))
	if rng.Intn(3) == 0 {
		spoil(rng, &n)
	}
	if rng.Intn(6) == 0 && len(offers) > 0 {
		spoilTie(rng, &offers[rng.Intn(len(offers))])
	}
	if rng.Intn(8) == 0 {
		offers = append(offers, anyTie(rng))
	}
	return asked{n, anyList(rng, len(n.Ties)), anyList(rng, len(n.Things)), offers}
}

func TestAny(t *testing.T) {
	rng := rand.New(rand.NewSource(67))
	nets := map[any]int{}
	for range 3000 {
		q := anyAsked(rng)
		before := copyAsked(q)
		list := answers(q)
		if again := answers(q); !reflect.DeepEqual(list, again) {
			t.Fatal("not the same again", q, list, again)
		}
		if !reflect.DeepEqual(q, before) {
			t.Fatal("changed", before, q)
		}
		nets[list[0][0]]++
		for i, results := range list {
			last := len(results) - 1
			if list[0][0] != api.OK && results[last] != list[0][0] {
				t.Fatal("function", i, "has not the error of the net", q, results)
			}
			if results[last] == api.OK {
				continue
			}
			for _, x := range results[:last] {
				if !isNothing(x) {
					t.Fatal("with an error", i, results)
				}
			}
		}
	}
	for _, e := range []api.Errno{api.OK, api.ErrLimit, api.ErrName, api.ErrTwice, api.ErrArg, api.ErrNone, api.ErrScope, api.ErrLoop} {
		if nets[e] == 0 {
			t.Error("no net with the error", e)
		}
	}
	if nets[api.OK] < 1000 {
		t.Error(nets)
	}
}

// The net's error comes first, whatever else is asked.
func TestErrorOfNetFirst(t *testing.T) {
	bad := weakLeft()
	bad.Ties[0].Most = -1
	q := asked{bad, []int{-1}, []int{7}, make([]api.Tie, 11)}
	for i, results := range answers(q) {
		if e := results[len(results)-1]; e != api.ErrArg {
			t.Error(i, e)
		}
	}
}

func TestManyOfAll(t *testing.T) {
	const many = 1 << 20
	if e := fix.Check(net(make([]api.Thing, many))); e != api.ErrLimit {
		t.Error(e)
	}
	if e := fix.Check(net(row(2), make([]api.Tie, many)...)); e != api.ErrLimit {
		t.Error(e)
	}
	if ok, e := fix.Carries(example(), make([]int, many)); ok || e != api.OK {
		t.Error(ok, e)
	}
	if ok, e := fix.Breaks(example(), make([]int, many)); ok || e != api.OK {
		t.Error(ok, e)
	}
	if list, found, e := fix.Add(example(), make([]api.Tie, many)); list != nil || found || e != api.ErrLimit {
		t.Error(list, found, e)
	}
}

func TestAnyText(t *testing.T) {
	rng := rand.New(rand.NewSource(68))
	pieces := []string{"thing", "tie", "hung", "ground", " ", " ", " ", "\n", "\n", "a", "straw", "0", "1", "9", "-", "10", "\xff", "\x00", "ü", exampleText, thingLine, otherLine, tieLine}
	good := 0
	for range 20000 {
		text := exampleText
		if rng.Intn(2) == 0 {
			text = ""
			for range rng.Intn(30) {
				text += pieces[rng.Intn(len(pieces))]
			}
		} else {
			i, k := rng.Intn(len(text)), rng.Intn(len(text))
			text = text[:min(i, k)] + pieces[rng.Intn(len(pieces))] + text[max(i, k):]
		}
		n, line, e := fix.Parse(text)
		if e != api.OK {
			if !sameNet(n, api.Net{}) || line < 0 || line > strings.Count(text, "\n")+1 || line == 0 && e == api.ErrForm {
				t.Fatalf("%q: %v %d %d", text, n, line, e)
			}
			continue
		}
		good++
		if s, e := fix.Print(n); e != api.OK || line != 0 || s != text && s != text+"\n" {
			t.Fatalf("%q: %q %d %d", text, s, line, e)
		}
	}
	if good < 100 {
		t.Error(good)
	}
}

// A nil list and an empty one are the same.
func TestNilAndEmpty(t *testing.T) {
	empty := asked{api.Net{Things: []api.Thing{}, Ties: []api.Tie{}}, []int{}, []int{}, []api.Tie{}}
	other := answers(asked{})
	for i, results := range answers(empty) {
		for k, x := range results {
			if !reflect.DeepEqual(x, other[i][k]) && !(isNothing(x) && isNothing(other[i][k])) {
				t.Error(i, x, other[i][k])
			}
		}
	}
}

// spent changes a list, and what it has room for.
func spent(list []int) {
	list = list[:cap(list)]
	for i := range list {
		list[i] = -9
	}
}

// What is returned shares no memory with the arguments, nor with what another call returns, nor within itself.
func TestNewMemory(t *testing.T) {
	// There is room behind the ties, and behind the offers, for what is not theirs.
	n := example()
	n.Ties = append(make([]api.Tie, 0, 9), n.Ties...)
	offers := append(make([]api.Tie, 0, 9), tie(0, 2, 7), tie(0, 3, 8))
	behind, offered := n.Ties[:9], offers[:9]
	weak := weakLeft()
	needy := copyNet(n)
	needy.Ties[0].Most = 3
	for range 2 {
		shares, _, _, _ := fix.Holds(n)
		_, cut, _, _ := fix.Holds(weak)
		f, most, least, _ := fix.Factor(n)
		ties, _ := fix.Weak(n)
		chosen, _, _ := fix.Add(needy, offers)
		parsed, _, _ := fix.Parse(exampleText)
		if len(shares) != 3 || len(cut) != 4 || f != ratio(17, 12) || len(ties) != 3 || !slices.Equal(chosen, []int{0}) || !sameNet(parsed, n) {
			t.Fatal(shares, cut, f, ties, chosen, parsed)
		}
		spent(most)
		if weight, way, ok := out(n, least); !ok || weight != 12 || way != 17 {
			t.Error("shares and a cut share memory", least)
		}
		for _, list := range [][]int{shares, cut, least, ties, chosen} {
			spent(list)
		}
		clear(parsed.Things)
		clear(parsed.Ties)
	}
	if !sameNet(n, example()) || !slices.Equal(offers, []api.Tie{tie(0, 2, 7), tie(0, 3, 8)}) {
		t.Error(n, offers)
	}
	if behind[3] != (api.Tie{}) || offered[2] != (api.Tie{}) {
		t.Error("something was written behind a list", behind, offered)
	}
}

// Calls at the same time are each as if it were alone.
func TestAtTheSameTime(t *testing.T) {
	rng := rand.New(rand.NewSource(69))
	q := anyAsked(rng)
	for fix.Check(q.n) != api.OK || len(q.n.Ties) < 20 {
		q = anyAsked(rng)
	}
	want := answers(q)
	var all sync.WaitGroup
	for range 8 {
		all.Go(func() {
			for range 10 {
				if got := answers(q); !reflect.DeepEqual(got, want) {
					t.Error(got, want)
				}
			}
		})
	}
	all.Wait()
}
