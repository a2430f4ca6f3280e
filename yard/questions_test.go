package yard_test

import (
	"slices"
	"strconv"
	"strings"
	"testing"

	"thatch/api"
	"thatch/coat"
	"thatch/fire"
	"thatch/fix"
	"thatch/mend"
	"thatch/ridge"
	"thatch/straw"
	"thatch/wear"
	"thatch/yard"
)

// P10.4 (Ask).

// parsed is what a text says that is known to be right.
func parsed[T any](t *testing.T, parse func(string) (T, int, api.Errno), text string) T {
	t.Helper()
	value, line, e := parse(text)
	if e != api.OK {
		t.Fatal(text, line, e)
	}
	return value
}

// with is the full book with some pages more, or in the place of others.
func with(t *testing.T, pages ...api.Page) api.Book {
	t.Helper()
	b := full()
	for _, p := range pages {
		turned, e := yard.Turn(b, p)
		if e != api.OK {
			t.Fatal(p, e)
		}
		b = turned
	}
	return b
}

func askBook(t *testing.T, b api.Book, question string) (string, api.Paper) {
	t.Helper()
	answer, p, e := yard.Ask(b, question)
	if e != api.OK {
		t.Fatal(question, e)
	}
	return answer, p
}

// answered is a question, and its answer with its paper.
type answered struct {
	question, answer string
	paper            api.Paper
}

func answerAll(t *testing.T, b api.Book, list []answered) {
	t.Helper()
	for _, c := range list {
		answer, p, e := yard.Ask(b, c.question)
		if e != api.OK || answer != c.answer || !same(p, c.paper) {
			t.Errorf("%s: %q %d %v", c.question, answer, e, p)
		}
	}
}

// TestAskCoats asks about areas and coats.
func TestAskCoats(t *testing.T) {
	m := api.Custom{Layers: 1, Gauge: api.Span{Low: 20, High: 20}, Side: 5}
	b := with(t,
		page(api.PgCoat, "empty", ""),
		page(api.PgCoat, "three", "course 0\nbundle -5 30 40 0 0 100\nbundle 15 30 40 0 0 100\ncourse 20\nbundle 0 40 20 0 0 50\n"),
		page(api.PgArea, "upper", "corner 0 20\ncorner 40 20\ncorner 40 40\ncorner 0 40\n"),
		page(api.PgCoat, "low", "course -1\n"),
		page(api.PgCoat, "close", "course 0\ncourse 9\n"),
		page(api.PgCoat, "crooked", "course 0\nbundle 0 40 40 1 0 100\n"),
		page(api.PgCoat, "loose", "course 0\nbundle 0 40 40 0 0 100\ncourse 20\nbundle 0 9 9 0 0 1\nbundle 1 9 9 0 0 1\nbundle 6 9 9 0 0 1\n"),
		page(api.PgRule, "broken", "rule 1 0 0 20 20 5 7 0\n"),
		page(api.PgRule, "two", "rule 2 0 0 20 20 5 0 0\n"),
	)
	answerAll(t, b, []answered{
		{"layers a c", "layers 1 thick 100", api.Paper{}},
		{"layers a three", "layers 1 thick 100", api.Paper{}},
		{"layers upper c", "layers 2 thick 150", api.Paper{}},
		{"layers a empty", "layers 0 thick 0", api.Paper{}},
		{"leak a c", "leak 100 0", api.Paper{Kind: api.PaDry, Area: square(), Coat: pair(), Number: 100, Numbers: list(0, 0)}},
		{"leak upper c", "leak 100 1 0", api.Paper{Kind: api.PaDry, Area: parsedArea(20), Coat: pair(), Number: 100, Numbers: list(50, 0)}},
		{"leak a empty", "leak 0", api.Paper{Kind: api.PaDry, Area: square()}},
		{"rules a m c", "kept", api.Paper{Kind: api.PaKept, Area: square(), Rule: m, Coat: pair()}},
		{"rules a m low", "broken eave 0 0", api.Paper{}},
		{"rules a m close", "broken gauge 1 0", api.Paper{}},
		{"rules a m crooked", "broken lean 0 0", api.Paper{}},
		{"rules a m loose", "broken side 1 2", api.Paper{}},
		{"rules a broken c", "broken break 1 0", api.Paper{}},
		{"rules a two c", "broken layers 0 0", api.Paper{}},
		{"rules upper two c", "kept", api.Paper{Kind: api.PaKept, Area: parsedArea(20), Rule: api.Custom{Layers: 2, Gauge: m.Gauge, Side: 5}, Coat: pair()}},
	})
}

// parsedArea is the square from a height on.
func parsedArea(from int) api.Area {
	return api.Area{Outline: []api.Pt{pt(0, from), pt(40, from), pt(40, 40), pt(0, 40)}}
}

// TestAskRoofs asks about roofs and fields.
func TestAskRoofs(t *testing.T) {
	f := parsed(t, straw.Parse, farmText)
	two := parsed(t, straw.Parse, "farm 0\nfield x heather 2 5 5 1 0 0 3\nfield y heather 3 5 5 1 0 0 4\nfield z reed 3 5 5 1 0 0 4\n")
	b := with(t,
		page(api.PgRoof, "bare", ""),
		page(api.PgRoof, "trough", "face s north 40 0 1 1 0 0 40 0 40 40 0 40\nface n south 40 0 1 1 0 40 40 40 40 80 0 80\n"),
		page(api.PgFarm, "two", "farm 0\nfield x heather 2 5 5 1 0 0 3\nfield y heather 3 5 5 1 0 0 4\nfield z reed 3 5 5 1 0 0 4\n"),
		page(api.PgRule, "thick", "rule 2 -40 0 10 20 5 10 0\n"),
	)
	fields := func(f api.Farm, n api.Need, cost int, numbers ...int) api.Paper {
		return api.Paper{Kind: api.PaFields, Farm: f, Need: n, Numbers: numbers, Number: cost}
	}
	answerAll(t, b, []answered{
		{"house r m 60 40 0 100", "house 100 4", api.Paper{}},
		{"house r thick 30 40 0 77", "house 77 8", api.Paper{}},
		{"house r m 60 41 1 100", "house 100 4", api.Paper{}},
		{"house bare m 60 40 0 100", "house 0 0", api.Paper{}},
		{"house trough m 60 40 0 100", "house 0 8", api.Paper{}},
		{"price r m 60 40 0 100 1 1 1", "price 3205", api.Paper{}},
		{"price r m 60 40 0 100 7 0 0", "price 7", api.Paper{}},
		{"price r m 60 40 0 100 0 2 0", "price 6400", api.Paper{}},
		{"price r m 60 40 0 100 0 0 1000", "price 4000", api.Paper{}},
		{"price bare m 60 40 0 100 5 6 7", "price 5", api.Paper{}},
		{"supply r m 60 40 0 100 f reed 10", "fields fen cost 50", fields(f, api.Need{Reed: 40}, 50, 0)},
		{"supply r m 60 40 0 100 f reed 11", "no fields", api.Paper{}},
		{"supply r m 60 40 0 100 f straw 2", "fields hill cost 20", fields(f, api.Need{Straw: 8}, 20, 1)},
		{"supply r m 60 40 0 100 f straw 3", "no fields", api.Paper{}},
		{"supply r m 60 40 0 100 f heather 1", "no fields", api.Paper{}},
		{"supply r m 60 40 0 100 two heather 4", "fields x y cost 7", fields(two, api.Need{Heather: 16}, 7, 0, 1)},
		{"supply r m 60 40 0 100 two heather 3", "fields y cost 4", fields(two, api.Need{Heather: 12}, 4, 1)},
		{"supply bare m 60 40 0 100 two heather 100", "fields cost 0", fields(two, api.Need{}, 0)},
	})
}

// TestAskProofs asks about nets, skins, works, grounds and crews, and about ridges.
func TestAskProofs(t *testing.T) {
	n, s, w := parsed(t, fix.Parse, netText), parsed(t, wear.Parse, skinText), parsed(t, mend.Parse, worksText)
	weakText := strings.Replace(netText, "left ground 0 8", "left ground 0 2", 1)
	weak := parsed(t, fix.Parse, weakText)
	pairText := "works 2 100 2\nslope 20 20 30 1 10\nslope 30 10 30 1 10\nadd 10 1\nstrip 9\n"
	pair := parsed(t, mend.Parse, pairText)
	b := with(t,
		page(api.PgNet, "weak", weakText),
		page(api.PgNet, "bare", ""),
		page(api.PgWorks, "pair", pairText),
		page(api.PgWorks, "soon", strings.Replace(worksText, "works 3", "works 0", 1)),
		page(api.PgWorks, "never", "works 1 0 1\nslope 40 30 60 1 20\n"),
		page(api.PgRidge, "none", "ridge 5 0 1\n"),
	)
	shares, _, _, _ := fix.Holds(n)
	_, cut, _, _ := fix.Holds(weak)
	values, _ := mend.Values(w)
	pairValues, _ := mend.Values(pair)
	soon := copied(w)
	soon.Years = 0
	answerAll(t, b, []answered{
		{"holds n", "holds", api.Paper{Kind: api.PaHolds, Net: n, Numbers: shares}},
		{"holds weak", "breaks", api.Paper{Kind: api.PaBreaks, Net: weak, Numbers: cut}},
		{"holds bare", "holds", api.Paper{Kind: api.PaHolds}},
		{"ridge t", "rows 21 even 3", api.Paper{}},
		{"ridge none", "rows 0 even 0", api.Paper{}},
		{"skin s 0", "yes", api.Paper{Kind: api.PaSkin, Skin: s, Number: 0}},
		{"skin s 120", "yes", api.Paper{Kind: api.PaSkin, Skin: s, Number: 120}},
		{"skin s 121", "open", api.Paper{}},
		{"skin s 200", "open", api.Paper{}},
		{"skin s 201", "no", api.Paper{}},
		{"skin s 2000", "no", api.Paper{}},
		{"mend w", "cost 48 -1 0 0", api.Paper{Kind: api.PaMend, Works: w, Plan: [][]int{{-1}, {0}, {0}}, Number: 48, Worths: values}},
		{"mend pair", "cost 202 0,-1 0,-1", api.Paper{Kind: api.PaMend, Works: pair, Plan: [][]int{{0, -1}, {0, -1}}, Number: 202, Worths: pairValues}},
		{"mend soon", "cost 0", api.Paper{Kind: api.PaMend, Works: soon}},
		{"mend never", "no plan", api.Paper{}},
	})
}

func TestAskFiresAndCrews(t *testing.T) {
	g, k := parsed(t, fire.Parse, groundText), example()
	b := with(t, page(api.PgCrew, "idle", "crew 5 5\n"), page(api.PgGround, "calm", "ground 3\nsite a\nsite b\npath a b 1 1\n"))
	calm := parsed(t, fire.Parse, "ground 3\nsite a\nsite b\npath a b 1 1\n")
	saved := func(g api.Ground, time int, sites, plan, times []int) api.Paper {
		return api.Paper{Kind: api.PaFire, Ground: g, Sites: sites, Plan: [][]int{plan}, Number: time, Numbers: times}
	}
	answerAll(t, b, []answered{
		{"fire g 40 c", "saved gap lane", saved(g, 40, list(2), list(0, 1), list(0, 10, -1))},
		{"fire g 39 c", "saved gap", saved(g, 39, list(2), list(0), list(0, 10, 40))},
		{"fire g 14 c", "saved", saved(g, 14, list(2), nil, list(0, 10, 15))},
		{"fire g 9 b c b", "saved", saved(g, 9, list(1, 2, 1), nil, list(0, 10, 15))},
		{"fire g 9 c b", "saved", saved(g, 9, list(2, 1), nil, list(0, 10, 15))},
		{"fire g 10 b", "not saved", api.Paper{}},
		{"fire g 40 c b", "not saved", api.Paper{}},
		{"fire g 0 a", "not saved", api.Paper{}},
		{"fire g 100000", "saved", saved(g, 100000, nil, nil, list(0, 10, 15))},
		{"fire calm 100000 b a", "saved", saved(calm, 100000, list(1, 0), nil, list(-1, -1))},
		{"crew k", "days 5 0 2 2", api.Paper{Kind: api.PaCrew, Crew: k, Numbers: list(0, 2, 2), Number: 5}},
		{"crew idle", "days 0", api.Paper{Kind: api.PaCrew, Crew: crew(5, 5)}},
	})
}

// questions are of all forms, and can be asked of the full book.
func questions() []string {
	return []string{
		"layers a c", "rules a m c", "leak a c", "house r m 60 40 0 100", "supply r m 60 40 0 100 f reed 10", "price r m 60 40 0 100 1 2 3",
		"holds n", "ridge t", "skin s 120", "mend w", "fire g 40 c", "fire g 40", "crew k",
	}
}

func isWrong(t *testing.T, b api.Book, question string, want api.Errno) {
	t.Helper()
	if answer, p, e := yard.Ask(b, question); e != want || answer != "" || !isNothing(p) {
		t.Errorf("%q: %q %v %d, not %d", question, answer, p.Kind, e, want)
	}
}

// Each question with a word less, a word more, or another word.
func TestAskForms(t *testing.T) {
	for _, question := range questions() {
		parts := strings.Split(question, " ")
		askBook(t, full(), question)
		for i, word := range parts {
			changed := func(words ...string) string {
				return strings.Join(slices.Concat(parts[:i], words, parts[i+1:]), " ")
			}
			isWrong(t, full(), changed(""), api.ErrForm)
			isWrong(t, full(), changed(word, ""), api.ErrForm)
			isWrong(t, full(), changed("", word), api.ErrForm)
			if _, err := strconv.Atoi(word); err == nil {
				for _, other := range []string{"x", "00", "+1", "-0", "1.0", "10000000000", "0x1", "a"} {
					isWrong(t, full(), changed(other), api.ErrForm)
				}
			} else if i > 0 && !slices.Contains([]string{"reed"}, word) {
				for _, other := range []string{"x", "A", "1", "\xff", "a\n", "-"} {
					isWrong(t, full(), changed(other), api.ErrNone)
				}
			}
		}
		last := len(parts) - 1
		if parts[0] != "fire" {
			isWrong(t, full(), strings.Join(parts[:last], " "), api.ErrForm)
			for _, more := range []string{"a", "1", "x"} {
				isWrong(t, full(), question+" "+more, api.ErrForm)
			}
		}
	}
}

// Each page by the name of each page of another kind.
func TestAskKinds(t *testing.T) {
	for _, question := range questions() {
		parts := strings.Split(question, " ")
		for i, word := range parts {
			number := slices.IndexFunc(full().Pages, func(p api.Page) bool { return p.Name == word })
			if i == 0 || number < 0 || parts[0] == "fire" && i > 1 {
				continue
			}
			for other, p := range full().Pages {
				if other != number {
					isWrong(t, full(), strings.Join(slices.Concat(parts[:i], []string{p.Name}, parts[i+1:]), " "), api.ErrNone)
				}
			}
		}
	}
}

func TestAskErrors(t *testing.T) {
	for _, c := range []struct {
		question string
		want     api.Errno
	}{
		{"", api.ErrForm},
		{" ", api.ErrForm},
		{"a", api.ErrForm},
		{"Leak a c", api.ErrForm},
		{"leak\ta c", api.ErrForm},
		{"page coat c", api.ErrForm},
		{"leak", api.ErrForm},
		{"leak x", api.ErrForm},
		{"leak x y z", api.ErrForm},
		{"leak x  y", api.ErrForm},
		{"fire", api.ErrForm},
		{"fire g", api.ErrForm},
		{"fire x", api.ErrForm},
		{"fire g c", api.ErrForm},
		{"fire x y", api.ErrForm},
		{"fire g 40 ", api.ErrForm},
		{"fire g 40 c  b", api.ErrForm},
		{"supply r m 60 40 0 100 f hay 10", api.ErrForm},
		{"supply r m 60 40 0 100 f Reed 10", api.ErrForm},
		{"supply r m 60 40 0 100 f 1 10", api.ErrForm},
		{"supply r m 60 40 0 100 x hay 10", api.ErrForm},
		{"supply r m 60 40 0 100 f 10 reed", api.ErrForm},
		{"supply r m 60 40 0 100 reed f 10", api.ErrForm},
		{"skin x y", api.ErrForm},
		{"skin 120 s", api.ErrForm},
		// no such page, or site, ahead of what the functions say
		{"skin x 2001", api.ErrNone},
		{"house x m 0 0 0 0", api.ErrNone},
		{"house r x 0 0 0 0", api.ErrNone},
		{"price x m 0 0 0 0 -1 -1 -1", api.ErrNone},
		{"supply r m 0 0 0 0 x reed 0", api.ErrNone},
		{"fire g 100001 x", api.ErrNone},
		{"fire g -1 a x", api.ErrNone},
		{"fire g 40 gap", api.ErrNone},
		{"fire g 40 C", api.ErrNone},
		// what the functions say
		{"skin s 2001", api.ErrArg},
		{"skin s -1", api.ErrArg},
		{"skin s 9999999999", api.ErrArg},
		{"house r m 60 40 30 100", api.ErrArg},
		{"house r m 101 40 0 100", api.ErrArg},
		{"house r m 60 101 0 100", api.ErrArg},
		{"house r m 60 40 0 1001", api.ErrArg},
		{"house r m 60 40 0 -9999999999", api.ErrArg},
		{"house r m 60 19 0 100", api.ErrScope},
		{"price r m 60 19 0 100 -1 0 0", api.ErrScope},
		{"price r m 60 40 0 100 1001 0 0", api.ErrArg},
		{"price r m 60 40 0 100 0 1001 0", api.ErrArg},
		{"price r m 60 40 0 100 0 0 1001", api.ErrArg},
		{"supply r m 60 19 0 100 f reed 0", api.ErrScope},
		{"supply r m 60 40 0 100 f reed 0", api.ErrArg},
		{"supply r m 60 40 0 100 f reed 101", api.ErrArg},
		{"fire g 100001 c", api.ErrArg},
		{"fire g -1", api.ErrArg},
	} {
		isWrong(t, full(), c.question, c.want)
	}
	// works with more states, and a ridge with more rows, than there may be
	many := with(t,
		page(api.PgWorks, "w", "works 40 0 4\nslope 0 0 1000 1\nslope 0 0 1000 1\nslope 0 0 1000 1\nadd 1 1\nadd 2 1\nadd 3 1\n"),
		page(api.PgRidge, "t", "ridge 2000 0 0\npiece a 1 0 0 a\npiece b 1 0 0 b\n"),
	)
	if _, e := ridge.Ways(parsed(t, ridge.Parse, many.Pages[6].Text)); e != api.ErrLimit {
		t.Error(e)
	}
	isWrong(t, many, "mend w", api.ErrLimit)
	isWrong(t, many, "ridge t", api.ErrLimit)
	wide := with(t, page(api.PgRoof, "r", "face s south 0 0 1 1 0 0 401 0 401 9\n"))
	isWrong(t, wide, "house r m 0 0 0 0", api.ErrScope)
	isWrong(t, book(), "crew k", api.ErrNone)
	isWrong(t, book(), "crew", api.ErrForm)
}

// P10.9: a page more changes no answer to a question that does not name it.
func TestPageMore(t *testing.T) {
	for _, question := range questions() {
		answer, p := askBook(t, full(), question)
		for i, more := range full().Pages {
			more.Name += "0"
			b := with(t, more)
			b.Pages[i], b.Pages[11] = b.Pages[11], b.Pages[i]
			for _, other := range []api.Book{with(t, more), b} {
				if again, q := askBook(t, other, question); again != answer || !same(p, q) {
					t.Error(question, more, again, answer)
				}
			}
		}
	}
}

// The examples of the document, in a book of their own.
func TestAskExamples(t *testing.T) {
	b := book(page(api.PgArea, "a", areaText), page(api.PgCoat, "c", coatText))
	answerAll(t, b, []answered{
		{"leak a c", "leak 100 0", api.Paper{Kind: api.PaDry, Area: square(), Coat: parsed(t, coat.Parse, coatText), Number: 100, Numbers: list(0, 0)}},
		{"layers a c", "layers 1 thick 100", api.Paper{}},
	})
	isWrong(t, b, "layers c a", api.ErrNone)
}
