package yard_test

import (
	"math/rand"
	"slices"
	"strconv"
	"strings"
	"testing"

	"thatch/api"
	"thatch/yard"
)

// P10.3 (Read, Print, Turn), P10.9 (there and back).

// Texts of pages, one of each kind.
const (
	roofText   = "face s south 0 300 1 1 0 0 40 0 40 40 0 40\n"
	areaText   = "corner 0 0\ncorner 40 0\ncorner 40 40\ncorner 0 40\n"
	ruleText   = "rule 1 0 0 20 20 5 0 0\n"
	coatText   = "course 0\nbundle 0 40 40 0 0 100\ncourse 20\nbundle 0 40 20 0 0 50\n"
	farmText   = "farm 150\nfield fen reed 4 10 12 2 200 300 50\nfield hill straw 2 5 9 1 100 140 20\n"
	netText    = "thing straw hung 10 20\nthing sway hung 2 30\nthing left ground 0 8\nthing right ground 0 9\ntie straw sway 15\ntie sway left 10\ntie sway right 10\n"
	ridgeText  = "ridge 5 0 0\npiece one 1 0 0 one\npiece two 2 0 0 two\npiece up 1 0 1 down\npiece down 1 1 0 up\n"
	skinText   = "skin 2 100 300\ncorner 0 0\ncorner 20 0\ncorner 20 10\ncorner 0 10\nhole 5 2 9 6\nmark 0 0 180 200\n"
	worksText  = "works 3 10 1\nslope 50 30 60 2 15\nadd 20 7\nstrip 30\n"
	groundText = "ground 0\nsite a\nsite b\nsite c\npath a b 10 20\npath b c 5 5\npath a c 40 50\nstrip gap b 3 4 1\nstrip lane c 8 10 2\nspark a 0\n"
	crewText   = "crew 2 1\ntask strip 2 2 1\ntask lay 3 1 1 0\ntask comb 2 1 0\n"
)

func page(kind api.PageKind, name, text string) api.Page {
	return api.Page{Kind: kind, Name: name, Text: text}
}

// full is a book with a page of each kind.
func full() api.Book {
	return api.Book{Pages: []api.Page{
		page(api.PgRoof, "r", roofText), page(api.PgArea, "a", areaText), page(api.PgRule, "m", ruleText),
		page(api.PgCoat, "c", coatText), page(api.PgFarm, "f", farmText), page(api.PgNet, "n", netText),
		page(api.PgRidge, "t", ridgeText), page(api.PgSkin, "s", skinText), page(api.PgWorks, "w", worksText),
		page(api.PgGround, "g", groundText), page(api.PgCrew, "k", crewText),
	}}
}

const fullText = "page roof r\n" + roofText + "page area a\n" + areaText + "page rule m\n" + ruleText + "page coat c\n" + coatText +
	"page farm f\n" + farmText + "page net n\n" + netText + "page ridge t\n" + ridgeText + "page skin s\n" + skinText +
	"page works w\n" + worksText + "page ground g\n" + groundText + "page crew k\n" + crewText

func book(pages ...api.Page) api.Book { return api.Book{Pages: pages} }

// bare is so many pages of coats without courses.
func bare(count int) api.Book {
	var b api.Book
	for i := range count {
		b.Pages = append(b.Pages, page(api.PgCoat, "c"+strconv.Itoa(i), ""))
	}
	return b
}

func TestRead(t *testing.T) {
	for _, c := range []struct {
		text string
		want api.Book
	}{
		{"", book()},
		{fullText, full()},
		{strings.TrimSuffix(fullText, "\n"), full()},
		{"page coat c", book(page(api.PgCoat, "c", ""))},
		{"page coat c\n", book(page(api.PgCoat, "c", ""))},
		{"page net c\npage roof d\npage coat e", book(page(api.PgNet, "c", ""), page(api.PgRoof, "d", ""), page(api.PgCoat, "e", ""))},
		{"page coat page\ncourse 5", book(page(api.PgCoat, "page", "course 5\n"))},
		{"page area ask\n" + areaText + "hole 1 1 2 2\nhole 5 5 9 9\n", book(page(api.PgArea, "ask", areaText+"hole 1 1 2 2\nhole 5 5 9 9\n"))},
		{"page rule m\nrule 96 -400 0 1 100 100 100 50\n", book(page(api.PgRule, "m", "rule 96 -400 0 1 100 100 100 50\n"))},
		{"page crew k\ncrew 100 0\n", book(page(api.PgCrew, "k", "crew 100 0\n"))},
		{"page crew k\ncrew 0 0\ntask a 1 0 0\ntask b 1 0 0\ntask c 12 0 0 0 1\n", book(page(api.PgCrew, "k", "crew 0 0\ntask a 1 0 0\ntask b 1 0 0\ntask c 12 0 0 0 1\n"))},
	} {
		b, line, e := yard.Read(c.text)
		if e != api.OK || line != 0 || !same(b, c.want) {
			t.Errorf("%q: %v %d %d", c.text, b, line, e)
		}
		text, e := yard.Print(c.want)
		if e != api.OK || text != c.text && text != c.text+"\n" {
			t.Errorf("%q: %q %d", c.text, text, e)
		}
	}
}

// wrongText is a text, and which line of it is wrong how.
type wrongText struct {
	text string
	line int
	want api.Errno
}

func readAll(t *testing.T, list []wrongText) {
	t.Helper()
	for _, c := range list {
		b, line, e := yard.Read(c.text)
		if line != c.line || e != c.want || e != api.OK && !isNothing(b) {
			t.Errorf("%q: %v %d %d", c.text, b, line, e)
		}
	}
}

func TestReadHeadings(t *testing.T) {
	readAll(t, []wrongText{
		{"\n", 1, api.ErrForm},
		{"\npage coat c\n", 1, api.ErrForm},
		{"course 0\n", 1, api.ErrForm},
		{"pages\n", 1, api.ErrForm},
		{"Page coat c\n", 1, api.ErrForm},
		{" page coat c\n", 1, api.ErrForm},
		{"page\tcoat c\n", 1, api.ErrForm},
		{"page\n", 1, api.ErrForm},
		{"page ", 1, api.ErrForm},
		{"page coat\n", 1, api.ErrForm},
		{"page coat \n", 1, api.ErrForm},
		{"page  c\n", 1, api.ErrForm},
		{"page coat  c\n", 1, api.ErrForm},
		{"page  coat c\n", 1, api.ErrForm},
		{"page coat c \n", 1, api.ErrForm},
		{"page coat c d\n", 1, api.ErrForm},
		{"page c coat\n", 1, api.ErrForm},
		{"page Coat c\n", 1, api.ErrForm},
		{"page hut h\n", 1, api.ErrForm},
		{"page ask q\n", 1, api.ErrForm},
		{"page page c\n", 1, api.ErrForm},
		{"page coat c\r\n", 1, api.ErrName},
		{"page coat c\ncourse 0\n\n", 3, api.ErrForm},
		{"page coat c\n pages\n", 2, api.ErrForm},
		{"page coat c\npage\n", 2, api.ErrForm},
		{"page coat c\ncourse 0\npage net\n", 3, api.ErrForm},
		// headings come ahead of all pages
		{"page coat C\nx\npage hut h\n", 3, api.ErrForm},
		{"page coat c\nx\npage coat c\npage ask q\n", 4, api.ErrForm},
		{"x\npage\n", 1, api.ErrForm},
		{"page coat c\npage\npage\n", 2, api.ErrForm},
	})
}

func TestReadPages(t *testing.T) {
	many := func(count int) string {
		text, _ := yard.Print(bare(min(count, 32)))
		for i := 32; i < count; i++ {
			text += "page coat c" + strconv.Itoa(i) + "\n"
		}
		return text
	}
	readAll(t, []wrongText{
		{"page coat C\n", 1, api.ErrName},
		{"page coat 1\n", 1, api.ErrName},
		{"page coat " + strings.Repeat("a", 16), 0, api.OK},
		{"page coat " + strings.Repeat("a", 17), 1, api.ErrName},
		{"page coat c\ncourse 0\npage net c\n", 3, api.ErrTwice},
		{"page coat c\npage coat d\npage coat c\n", 3, api.ErrTwice},
		{many(32), 0, api.OK},
		{many(33), 33, api.ErrLimit},
		{many(34), 33, api.ErrLimit},
		{many(32) + "page coat C\n", 33, api.ErrLimit},
		{many(32) + "page coat c1\nx\n", 33, api.ErrLimit},
		{many(31) + "page coat C\npage coat d\n", 32, api.ErrName},
		{many(31) + "course 0\npage coat d\npage coat e\n", 34, api.ErrLimit},
		{many(33) + "page coat\n", 34, api.ErrForm},
		// page by page
		{"page coat c\nx\npage coat C\n", 2, api.ErrForm},
		{"page coat c\npage coat C\nx\n", 2, api.ErrName},
		{"page coat c\npage coat c\nx\n", 2, api.ErrTwice},
		{"page coat c\ncourse 0\nx\npage coat c\n", 3, api.ErrForm},
		{"page coat c\ncourse 0\ncourse 0\npage coat c\n", 1, api.ErrState},
	})
}

// The errors of the texts of all kinds, with their lines.
func TestReadTexts(t *testing.T) {
	readAll(t, []wrongText{
		{"page roof r\n" + roofText + "open o t 1 1 2 2\n", 3, api.ErrNone},
		{"page roof r\n" + roofText + roofText, 1, api.ErrTwice},
		{"page coat c\ncourse 0\nbundle 1\n", 3, api.ErrForm},
		{"page coat c\nbundle 0 40 40 0 0 100\n", 2, api.ErrForm},
		{"page coat c\ncourse 0\nbundle 0 0 40 0 0 100\n", 1, api.ErrArg},
		{"page farm f\n", 1, api.ErrForm},
		{"page farm f\nfarm 1\nfield\n", 3, api.ErrForm},
		{"page farm f\nfarm 1001\n", 1, api.ErrArg},
		{"page net n\nthing a hung 1 1\ntie a b 1\n", 3, api.ErrNone},
		{"page net n\nthing a hung 1 1\ntie a a 1\n", 1, api.ErrArg},
		{"page ridge t\n", 1, api.ErrForm},
		{"page ridge t\nridge 5 0 0\npiece a 1 0 0 b\n", 3, api.ErrNone},
		{"page ridge t\nridge 5 0 10\n", 1, api.ErrArg},
		{"page skin s\n", 1, api.ErrForm},
		{"page skin s\n" + skinText + "corner 0 0\n", 9, api.ErrForm},
		{"page skin s\n" + skinText + "mark 1 0 203 210\n", 1, api.ErrClash},
		{"page works w\n", 1, api.ErrForm},
		{"page works w\nworks 3 10 1\nadd 1 1\nslope 50 30 60 2\n", 4, api.ErrForm},
		{"page works w\nworks 3 10 1\n", 1, api.ErrArg},
		{"page ground g\n", 1, api.ErrForm},
		{"page ground g\nground 0\nsite a\nspark b 1\n", 4, api.ErrNone},
		{"page ground g\nground -1\n", 1, api.ErrArg},
		// behind other pages
		{"page net n\npage coat c\ncourse 0\npage coat d\ncourse 0\nbundle 1\n", 6, api.ErrForm},
		{"page net n\npage coat c\ncourse 0\npage coat d\ncourse 401\n", 4, api.ErrArg},
		{"page net n\npage coat c\ncourse 0\npage works w\n", 4, api.ErrForm},
	})
}

func TestReadAreas(t *testing.T) {
	const heading, triangle = "page area a\n", "corner 0 0\ncorner 9 0\ncorner 9 9\n"
	readAll(t, []wrongText{
		{heading, 1, api.ErrArg},
		{heading + "corner 0 0\ncorner 9 0\n", 1, api.ErrArg},
		{heading + triangle, 0, api.OK},
		{heading + triangle + "hole 7 2 8 3\n", 0, api.OK},
		{heading + triangle + "hole 7 2 7 3\n", 1, api.ErrArg},
		{heading + triangle + "hole 7 2 9 3\n", 1, api.ErrScope},
		{heading + triangle + "hole 7 2 8 3\nhole 7 3 8 4\n", 1, api.ErrClash},
		{heading + triangle + "corner 0 0\n", 1, api.ErrTwice},
		{heading + "corner 0 0\ncorner 9 9\ncorner 9 0\n", 1, api.ErrScope},
		{heading + strings.Repeat("corner 0 0\n", 13), 1, api.ErrLimit},
		{heading + triangle + strings.Repeat("hole 7 2 8 3\n", 7), 1, api.ErrLimit},
		{heading + "corner 0 401\n" + triangle, 1, api.ErrArg},
		{heading + "hole 1 1 2 2\n", 1, api.ErrArg},
		{heading + "hole 1 1 2 2\ncorner 0 0\n", 3, api.ErrForm},
		{heading + triangle + "hole 7 2 8 3\ncorner 0 9\n", 6, api.ErrForm},
		{heading + "\n" + triangle, 2, api.ErrForm},
		{heading + triangle + "\n", 5, api.ErrForm},
		{heading + "corner\n", 2, api.ErrForm},
		{heading + "corner 0\n", 2, api.ErrForm},
		{heading + "corner 0 0 0\n", 2, api.ErrForm},
		{heading + "corner 0  0\n", 2, api.ErrForm},
		{heading + "corner 0 0 \n", 2, api.ErrForm},
		{heading + "corner 0 x\n", 2, api.ErrForm},
		{heading + "corner 0 00\n", 2, api.ErrForm},
		{heading + "corner 0 10000000000\n", 2, api.ErrForm},
		{heading + "corner 0 9999999999\n" + triangle, 1, api.ErrArg},
		{heading + triangle + "hole 7 2 8\n", 5, api.ErrForm},
		{heading + triangle + "hole 7 2 8 3 4\n", 5, api.ErrForm},
		{heading + triangle + "hole 7 2 8 -0\n", 5, api.ErrForm},
		{heading + triangle + "Hole 7 2 8 3\n", 5, api.ErrForm},
		{heading + triangle + "mark 7 2 8 3\n", 5, api.ErrForm},
		{heading + "x\nx\n", 2, api.ErrForm},
		{heading + strings.Repeat("corner 0 0\n", 20) + "x\n", 22, api.ErrForm},
	})
}

func TestReadRules(t *testing.T) {
	const heading, good = "page rule m\n", "rule 1 -9 0 20 30 5 6 7\n"
	readAll(t, []wrongText{
		{heading, 1, api.ErrForm},
		{heading + good, 0, api.OK},
		{heading + good + good, 3, api.ErrForm},
		{heading + good + "\n", 3, api.ErrForm},
		{heading + good + "x\n", 3, api.ErrForm},
		{heading + "\n" + good, 2, api.ErrForm},
		{heading + "x\n" + good, 2, api.ErrForm},
		{heading + "rule 0 -9 0 20 30 5 6 7\n", 1, api.ErrArg},
		{heading + "rule 0 -9 0 20 30 5 6 7\n" + good, 3, api.ErrForm},
		{heading + "rule 1 0 -9 20 30 5 6 7\n", 1, api.ErrArg},
		{heading + "rule 1 -9 0 30 20 5 6 7\n", 1, api.ErrArg},
		{heading + "rule 1 -9 0 20 30 101 6 7\n", 1, api.ErrArg},
		{heading + "rule 1 -9 0 20 30 5 101 7\n", 1, api.ErrArg},
		{heading + "rule 1 -9 0 20 30 5 6 51\n", 1, api.ErrArg},
		{heading + "rule\n", 2, api.ErrForm},
		{heading + "rule 1 -9 0 20 30 5 6\n", 2, api.ErrForm},
		{heading + "rule 1 -9 0 20 30 5 6 7 8\n", 2, api.ErrForm},
		{heading + "rule 1 -9 0 20 30 5 6 \n", 2, api.ErrForm},
		{heading + "rule 1 -9 0 20 30 5 6 x\n", 2, api.ErrForm},
		{heading + "rule 1 -9 0 20 30 5 6 +7\n", 2, api.ErrForm},
		{heading + "rules 1 -9 0 20 30 5 6 7\n", 2, api.ErrForm},
	})
	// each number in its place
	b, _, _ := yard.Read("page area a\n" + areaText + "page coat c\ncourse 0\nbundle 0 40 50 0 0 9\n" + heading + good)
	want := api.Custom{Layers: 1, Eave: api.Span{Low: -9}, Gauge: api.Span{Low: 20, High: 30}, Side: 5, Break: 6, Lean: 7}
	if answer, p, e := yard.Ask(b, "rules a m c"); e != api.OK || answer != "kept" || p.Rule != want {
		t.Error(answer, p, e)
	}
}

func TestReadCrews(t *testing.T) {
	const heading, crewLine, taskLine = "page crew k\n", "crew 2 1\n", "task a 3 2 1\n"
	readAll(t, []wrongText{
		{heading, 1, api.ErrForm},
		{heading + crewLine, 0, api.OK},
		{heading + crewLine + taskLine, 0, api.OK},
		{heading + taskLine, 2, api.ErrForm},
		{heading + taskLine + crewLine, 2, api.ErrForm},
		{heading + crewLine + crewLine, 3, api.ErrForm},
		{heading + crewLine + taskLine + crewLine, 4, api.ErrForm},
		{heading + "\n" + crewLine, 2, api.ErrForm},
		{heading + crewLine + "\n" + taskLine, 3, api.ErrForm},
		{heading + crewLine + taskLine + "\n", 4, api.ErrForm},
		{heading + "crew\n", 2, api.ErrForm},
		{heading + "crew 2\n", 2, api.ErrForm},
		{heading + "crew 2 1 0\n", 2, api.ErrForm},
		{heading + "crew 2 x\n", 2, api.ErrForm},
		{heading + "crew 2  1\n", 2, api.ErrForm},
		{heading + "crew 101 1\n", 1, api.ErrArg},
		{heading + "crew 1 101\n", 1, api.ErrArg},
		{heading + crewLine + "task\n", 3, api.ErrForm},
		{heading + crewLine + "task a\n", 3, api.ErrForm},
		{heading + crewLine + "task a 3 2\n", 3, api.ErrForm},
		{heading + crewLine + "task  3 2 1\n", 3, api.ErrForm},
		{heading + crewLine + "task a 3 2 1 \n", 3, api.ErrForm},
		{heading + crewLine + "task a 3 2 x\n", 3, api.ErrForm},
		{heading + crewLine + taskLine + "task b 3 2 1 x\n", 4, api.ErrForm},
		{heading + crewLine + taskLine + "task b 3 2 1 0  1\n", 4, api.ErrForm},
		{heading + crewLine + "Task a 3 2 1\n", 3, api.ErrForm},
		{heading + crewLine + "task A 3 2 1\n", 1, api.ErrName},
		{heading + crewLine + "task 1 3 2 1\n", 1, api.ErrName},
		{heading + crewLine + taskLine + taskLine, 1, api.ErrTwice},
		{heading + crewLine + "task a 13 2 1\n", 1, api.ErrArg},
		{heading + crewLine + "task a 3 3 1\n", 1, api.ErrScope},
		{heading + crewLine + "task a 3 2 2\n", 1, api.ErrScope},
		{heading + crewLine + taskLine + "task b 3 2 1 1\n", 1, api.ErrNone},
		{heading + crewLine + taskLine + "task b 3 2 1 0 0\n", 1, api.ErrArg},
		{heading + crewLine + strings.Repeat(taskLine, 7), 1, api.ErrLimit},
		{heading + crewLine + strings.Repeat(taskLine, 7) + "x\n", 10, api.ErrForm},
	})
}

// long is a book of coats with as many bundles as there may be. With 6 letters more in the last name its text has MaxText bytes.
func long(letters int) (api.Book, string) {
	const line = "bundle -400 100 100 -50 49 1000\n"
	var b api.Book
	text := ""
	for i := range 22 {
		p := page(api.PgCoat, "c"+strconv.Itoa(10+i), "course 0\n"+strings.Repeat(line, 96))
		if i == 21 {
			p = page(api.PgCoat, "c31"+strings.Repeat("x", letters), "course 0\n"+strings.Repeat(line, 16))
		}
		b.Pages = append(b.Pages, p)
		text += "page coat " + p.Name + "\n" + p.Text
	}
	return b, text
}

func TestLongTexts(t *testing.T) {
	for _, c := range []struct {
		letters, size int
		want          api.Errno
	}{
		{6, 65536, api.OK},
		{7, 65537, api.ErrLimit},
	} {
		b, text := long(c.letters)
		if len(text) != c.size {
			t.Fatal(len(text))
		}
		if again, line, e := yard.Read(text); e != c.want || line != 0 || same(again, b) != (e == api.OK) {
			t.Error(c, line, e)
		}
		if again, e := yard.Print(b); e != c.want || (again == text) != (e == api.OK) {
			t.Error(c, len(again), e)
		}
		// the line feed at the end is a byte, too
		if _, line, e := yard.Read(strings.TrimSuffix(text, "\n")); e != api.OK || line != 0 {
			t.Error(c, line, e)
		}
		// a book may have more than what can be printed
		if turned, e := yard.Turn(b, page(api.PgCoat, "d", "")); e != api.OK || len(turned.Pages) != 23 {
			t.Error(c, e)
		}
		if answer, _, e := yard.Ask(b, "crew k"); e != api.ErrNone {
			t.Error(c, answer, e)
		}
	}
	readAll(t, []wrongText{
		{strings.Repeat("x", 65536), 1, api.ErrForm},
		{strings.Repeat("x", 65537), 0, api.ErrLimit},
		{"page coat c\n" + strings.Repeat("\n", 65524), 2, api.ErrForm},
		{"page coat c\n" + strings.Repeat("\n", 65525), 0, api.ErrLimit},
		{strings.Repeat("page coat c\n", 5461), 2, api.ErrTwice},
	})
}

// bookErrors are books that may not be.
func bookErrors() map[string]struct {
	pages []api.Page
	want  api.Errno
} {
	coat := func(name, text string) api.Page { return page(api.PgCoat, name, text) }
	many := slices.Clip(bare(32).Pages)
	type x = struct {
		pages []api.Page
		want  api.Errno
	}
	return map[string]x{
		"no kind":                                         {[]api.Page{page(api.PgNone, "C", "x")}, api.ErrArg},
		"a kind above all":                                {[]api.Page{page(api.PgCrew+1, "c", "")}, api.ErrArg},
		"the greatest kind":                               {[]api.Page{page(255, "c", "")}, api.ErrArg},
		"33 pages":                                        {append(many, coat("d", "")), api.ErrLimit},
		"33 pages, the last one of no kind":               {append(many, page(api.PgNone, "d", "")), api.ErrArg},
		"33 pages, the last one without name":             {append(many, coat("", "")), api.ErrLimit},
		"34 pages, the last one of no kind":               {append(many, coat("d", ""), page(api.PgNone, "e", "")), api.ErrLimit},
		"33 pages, the first one without name":            {append([]api.Page{coat("", "")}, many...), api.ErrName},
		"a name that is none":                             {[]api.Page{coat("C", "page")}, api.ErrName},
		"no name":                                         {[]api.Page{coat("", "x")}, api.ErrName},
		"a name with a line feed":                         {[]api.Page{coat("c\n", "")}, api.ErrName},
		"a name twice":                                    {[]api.Page{coat("c", ""), coat("d", ""), coat("c", "page")}, api.ErrTwice},
		"a name twice, of two kinds":                      {[]api.Page{coat("c", ""), page(api.PgNet, "c", "")}, api.ErrTwice},
		"a text with a heading":                           {[]api.Page{coat("c", "course 0\npage coat d\n")}, api.ErrForm},
		"a text with what is no heading of a page":        {[]api.Page{coat("c", "course 0\npage\n")}, api.ErrForm},
		"a heading in a text that is wrong":               {[]api.Page{page(api.PgArea, "c", "page\n")}, api.ErrForm},
		"a heading behind a line that is wrong otherwise": {[]api.Page{page(api.PgNet, "n", "thing a hung 1 1\ntie a b 1\npage\n")}, api.ErrForm},
		"a heading in a text that is too long":            {[]api.Page{coat("c", strings.Repeat("course 0\n", 8000)+"page coat d\n")}, api.ErrForm},
		"a text without its last line feed":               {[]api.Page{coat("c", "course 0")}, api.ErrForm},
		"a text without its last line feed, and wrong":    {[]api.Page{coat("c", "course 0\ncourse 0")}, api.ErrForm},
		"a text of a wrong line":                          {[]api.Page{coat("c", "x\n")}, api.ErrForm},
		"a text of a wrong coat":                          {[]api.Page{coat("c", "course 0\ncourse 0\n")}, api.ErrState},
		"a text of an area that may not be":               {[]api.Page{page(api.PgArea, "a", "")}, api.ErrArg},
		"a text of no rule":                               {[]api.Page{page(api.PgRule, "m", "")}, api.ErrForm},
		"a text of no crew":                               {[]api.Page{page(api.PgCrew, "k", "")}, api.ErrForm},
		"a text that is too long":                         {[]api.Page{coat("c", strings.Repeat("course 0\n", 8000))}, api.ErrLimit},
		"a text of another kind":                          {[]api.Page{page(api.PgNet, "n", coatText)}, api.ErrForm},
		"the first page counts":                           {[]api.Page{coat("c", "course 0\ncourse 0\n"), coat("", "")}, api.ErrState},
		"a wrong text behind good ones":                   {append(full().Pages, page(api.PgWorks, "v", "works 3 10 1\n")), api.ErrArg},
	}
}

func TestBookErrors(t *testing.T) {
	for name, c := range bookErrors() {
		b := book(c.pages...)
		if text, e := yard.Print(b); e != c.want || text != "" {
			t.Errorf("%s: %q %d", name, text, e)
		}
		// the error of the book comes first
		if turned, e := yard.Turn(b, api.Page{}); e != c.want || !isNothing(turned) {
			t.Error(name, turned, e)
		}
		if answer, p, e := yard.Ask(b, "x"); e != c.want || answer != "" || !isNothing(p) {
			t.Error(name, answer, p, e)
		}
	}
}

func TestTurn(t *testing.T) {
	three := book(page(api.PgCoat, "c", coatText), page(api.PgNet, "n", netText), page(api.PgCrew, "k", crewText))
	of := func(number int, p api.Page) api.Book {
		b := copied(three)
		b.Pages[number] = p
		return b
	}
	for _, c := range []struct {
		b    api.Book
		p    api.Page
		want api.Book
	}{
		{book(), page(api.PgCoat, "c", ""), book(page(api.PgCoat, "c", ""))},
		{three, page(api.PgCoat, "c", ""), of(0, page(api.PgCoat, "c", ""))},
		{three, page(api.PgNet, "n", ""), of(1, page(api.PgNet, "n", ""))},
		{three, page(api.PgCrew, "k", "crew 0 0\n"), of(2, page(api.PgCrew, "k", "crew 0 0\n"))},
		{three, page(api.PgRoof, "n", roofText), of(1, page(api.PgRoof, "n", roofText))},
		{three, three.Pages[1], three},
		{three, page(api.PgRule, "m", ruleText), book(append(copied(three).Pages, page(api.PgRule, "m", ruleText))...)},
		{bare(32), page(api.PgCoat, "c31", "course 0\n"), book(append(bare(31).Pages, page(api.PgCoat, "c31", "course 0\n"))...)},
		{bare(31), page(api.PgCoat, "c31", ""), bare(32)},
	} {
		before := copied(c.b)
		if turned, e := yard.Turn(c.b, c.p); e != api.OK || !same(turned, c.want) || !same(c.b, before) {
			t.Error(c.p, turned, e)
		}
	}
	// a page into a list that has room for it
	roomy := book(three.Pages[:2]...)
	if turned, e := yard.Turn(roomy, page(api.PgRule, "m", ruleText)); e != api.OK || len(turned.Pages) != 3 || three.Pages[2].Name != "k" {
		t.Error(turned, e, three)
	}
}

func TestTurnErrors(t *testing.T) {
	for _, c := range []struct {
		b    api.Book
		p    api.Page
		want api.Errno
	}{
		{full(), api.Page{}, api.ErrArg},
		{full(), page(api.PgNone, "c", coatText), api.ErrArg},
		{full(), page(api.PgCoat, "", coatText), api.ErrName},
		{full(), page(api.PgCoat, "x y", coatText), api.ErrName},
		{full(), page(api.PgCoat, "c", "course 0"), api.ErrForm},
		{full(), page(api.PgCoat, "d", "page coat e\n"), api.ErrForm},
		{full(), page(api.PgCoat, "d", "x\n"), api.ErrForm},
		{full(), page(api.PgNet, "c", coatText), api.ErrForm},
		{full(), page(api.PgArea, "c", ""), api.ErrArg},
		{full(), page(api.PgWorks, "w", "works 1 1 1\n"), api.ErrArg},
		{full(), page(api.PgCoat, "d", "course 0\ncourse 0\n"), api.ErrState},
		{bare(32), page(api.PgCoat, "d", "x"), api.ErrLimit},
		{bare(32), page(api.PgNone, "d", ""), api.ErrArg},
		{bare(32), page(api.PgCoat, "c31", "x\n"), api.ErrForm},
		{bare(33), page(api.PgNone, "c0", ""), api.ErrLimit},
	} {
		if turned, e := yard.Turn(c.b, c.p); e != c.want || !isNothing(turned) {
			t.Error(c.p, turned, e)
		}
	}
}

// P10.9: the text of a book is read as that book.
func TestPrintIsRead(t *testing.T) {
	rng := rand.New(rand.NewSource(174))
	for range 500 {
		b := randomBook(rng)
		text, e := yard.Print(b)
		if e != api.OK {
			t.Fatal(b, e)
		}
		want := ""
		for _, p := range b.Pages {
			want += "page " + kindWord(p.Kind) + " " + p.Name + "\n" + p.Text
		}
		if text != want {
			t.Fatalf("%q %q", text, want)
		}
		if again, line, e := yard.Read(text); e != api.OK || line != 0 || !same(again, b) {
			t.Fatal(b, again, line, e)
		}
	}
}

func kindWord(kind api.PageKind) string {
	return strings.Split("roof area rule coat farm net ridge skin works ground crew", " ")[kind-1]
}

// randomBook is a book of pages of all kinds, some of them more than once.
func randomBook(rng *rand.Rand) api.Book {
	var b api.Book
	for i := range rng.Intn(api.MaxPages + 1) {
		p := full().Pages[rng.Intn(11)]
		p.Name += strconv.Itoa(i)
		if slices.Contains([]api.PageKind{api.PgRoof, api.PgCoat, api.PgNet}, p.Kind) && rng.Intn(3) == 0 {
			p.Text = ""
		}
		b.Pages = append(b.Pages, p)
	}
	return b
}
