package wear_test

import (
	"math"
	"math/rand"
	"slices"
	"strconv"
	"strings"
	"testing"

	"thatch/api"
	"thatch/wear"
)

// P7.5 (Print, Parse).

func TestPrint(t *testing.T) {
	for _, c := range []struct {
		s    api.Skin
		want string
	}{
		{example(), exampleText},
		{of(rectangle(0, 0, 1, 1), 0, span(0, 0)), "skin 0 0 0\ncorner 0 0\ncorner 1 0\ncorner 1 1\ncorner 0 1\n"},
		{pointless(), "skin 0 5 9\ncorner 1 1\ncorner 3 1\ncorner 1 3\nhole 0 0 9 9\n"},
		{
			of(api.Area{Outline: outline(400, 0, 399, 398, 7, 8), Holes: []api.Box{box(-5, 6, 7, 18), box(-9999999999, 1, 9999999999, 2)}}, 1000, span(1, 2000), mark(400, 0, 9, 10), mark(7, 8, 3, 1999)),
			"skin 1000 1 2000\ncorner 400 0\ncorner 399 398\ncorner 7 8\nhole -5 6 7 18\nhole -9999999999 1 9999999999 2\nmark 400 0 9 10\nmark 7 8 3 1999\n",
		},
	} {
		if text, e := wear.Print(c.s); e != api.OK || text != c.want {
			t.Errorf("%q %d", text, e)
		}
		for _, text := range []string{c.want, strings.TrimSuffix(c.want, "\n")} {
			if s, line, e := wear.Parse(text); e != api.OK || line != 0 || !sameSkin(s, c.s) {
				t.Errorf("%q: %v %d %d", text, s, line, e)
			}
		}
	}
	for _, c := range []struct {
		s    api.Skin
		want api.Errno
	}{
		{api.Skin{}, api.ErrArg},
		{changed(func(s *api.Skin) { s.Area.Outline[1] = pt(0, 0) }), api.ErrTwice},
		{changed(func(s *api.Skin) { slices.Reverse(s.Area.Outline) }), api.ErrScope},
		{marked(41), api.ErrLimit},
		{changed(func(s *api.Skin) { s.Marks[0].At = pt(6, 3) }), api.ErrNone},
		{changed(func(s *api.Skin) { s.Marks = append(s.Marks, s.Marks[0]) }), api.ErrState},
		{changed(func(s *api.Skin) { s.Marks[0].Thick = span(80, 99) }), api.ErrClash},
	} {
		if text, e := wear.Print(c.s); e != c.want || text != "" {
			t.Errorf("%q %d", text, e)
		}
	}
}

// A hole may have any coordinates, and is printed with them; a text with more than 10 digits is none.
func TestPrintFarHole(t *testing.T) {
	s := changed(func(s *api.Skin) { s.Area.Holes = []api.Box{box(math.MinInt, 1, math.MaxInt, 2)} })
	want := strings.Replace(exampleText, "hole 5 2 9 6", "hole -9223372036854775808 1 9223372036854775807 2", 1)
	if text, e := wear.Print(s); e != api.OK || text != want {
		t.Errorf("%q %d", text, e)
	}
	if s, line, e := wear.Parse(want); e != api.ErrForm || line != 6 || !sameSkin(s, api.Skin{}) {
		t.Error(s, line, e)
	}
}

func TestPrintIsParsed(t *testing.T) {
	rng := rand.New(rand.NewSource(108))
	for i := range 2000 {
		s := randomSkin(rng, []int{6, 30}[i%2])
		text, e := wear.Print(s)
		if e != api.OK {
			t.Fatal(s, e)
		}
		if again, line, e := wear.Parse(text); e != api.OK || line != 0 || !sameSkin(again, s) {
			t.Fatal(s, again, line, e)
		}
	}
}

const (
	skinLine = "skin 2 100 300\n"
	corners  = "corner 0 0\ncorner 20 0\ncorner 0 20\n"
	holeLine = "hole 5 2 9 6\n"
	markLine = "mark 0 0 180 200\n"
)

// parsed is a text, and which line of it is wrong how.
type parsed struct {
	text string
	line int
	want api.Errno
}

func parseAll(t *testing.T, list []parsed) {
	t.Helper()
	for _, c := range list {
		if s, line, e := wear.Parse(c.text); e != c.want || line != c.line || e != api.OK && !sameSkin(s, api.Skin{}) {
			t.Errorf("%q: line %d, error %d; %v", c.text, line, e, s)
		}
	}
}

func TestParseOrder(t *testing.T) {
	const start = skinLine + corners
	parseAll(t, []parsed{
		{start, 0, api.OK},
		{start + holeLine, 0, api.OK},
		{start + markLine, 0, api.OK},
		{start + holeLine + holeLine + markLine, 0, api.OK},
		{start + holeLine + markLine + "mark 1 0 180 200", 0, api.OK},
		{"", 0, api.ErrForm},
		{"\n", 1, api.ErrForm},
		{"\n" + start, 1, api.ErrForm},
		{start + "\n", 5, api.ErrForm},
		{start + "\n" + holeLine, 5, api.ErrForm},
		{start + holeLine + "\n", 6, api.ErrForm},
		{start + markLine + "\n" + markLine, 6, api.ErrForm},
		{skinLine + "\n" + corners, 2, api.ErrForm},
		{corners, 1, api.ErrForm},
		{corners + skinLine, 1, api.ErrForm},
		{holeLine, 1, api.ErrForm},
		{markLine, 1, api.ErrForm},
		{skinLine + skinLine + corners, 2, api.ErrForm},
		{start + skinLine, 5, api.ErrForm},
		{start + markLine + skinLine, 6, api.ErrForm},
		{start + holeLine + "corner 0 0\n", 6, api.ErrForm},
		{start + markLine + "corner 0 0\n", 6, api.ErrForm},
		{start + markLine + holeLine, 6, api.ErrForm},
		{start + holeLine + markLine + holeLine, 7, api.ErrForm},
		{skinLine + holeLine + corners, 3, api.ErrForm},
		{skinLine + markLine + corners, 3, api.ErrForm},
		{skinLine, 0, api.ErrArg},
		{skinLine + holeLine, 0, api.ErrArg},
		{skinLine + markLine, 0, api.ErrArg},
		{skinLine + "corner 0 0\ncorner 20 0\n", 0, api.ErrArg},
	})
}

func TestParseLines(t *testing.T) {
	const start = skinLine + corners
	parseAll(t, []parsed{
		{"skin", 1, api.ErrForm},
		{"skin 2 100", 1, api.ErrForm},
		{"skin 2 100 300 4", 1, api.ErrForm},
		{"skin 2 100 300 ", 1, api.ErrForm},
		{" skin 2 100 300", 1, api.ErrForm},
		{"skin  2 100 300", 1, api.ErrForm},
		{"skin 2\t100 300", 1, api.ErrForm},
		{"skin 2 100 300\r\n", 1, api.ErrForm},
		{"Skin 2 100 300", 1, api.ErrForm},
		{"skins 2 100 300", 1, api.ErrForm},
		{"2 100 300", 1, api.ErrForm},
		{"skin x 100 300", 1, api.ErrForm},
		{"skin 02 100 300", 1, api.ErrForm},
		{"skin 2 +100 300", 1, api.ErrForm},
		{"skin 2 -0 300", 1, api.ErrForm},
		{"skin 2 100 10000000000", 1, api.ErrForm},
		{skinLine + "corner 0", 2, api.ErrForm},
		{skinLine + "corner 0 0 0", 2, api.ErrForm},
		{skinLine + "corner 0 0 ", 2, api.ErrForm},
		{skinLine + "corner", 2, api.ErrForm},
		{skinLine + "Corner 0 0", 2, api.ErrForm},
		{skinLine + "corner 0 00", 2, api.ErrForm},
		{skinLine + "corner 0 0\ncorner -0 1", 3, api.ErrForm},
		{start + "hole 5 2 9", 5, api.ErrForm},
		{start + "hole 5 2 9 6 1", 5, api.ErrForm},
		{start + "hole 5 2 9 x", 5, api.ErrForm},
		{start + "holes 5 2 9 6", 5, api.ErrForm},
		{start + "hole -10000000000 2 9 6", 5, api.ErrForm},
		{start + "mark 0 0 180", 5, api.ErrForm},
		{start + "mark 0 0 180 200 220", 5, api.ErrForm},
		{start + "mark 0 0 180 0200", 5, api.ErrForm},
		{start + "mark  0 0 180 200", 5, api.ErrForm},
		{start + "mark 0 0 180 200\nx", 6, api.ErrForm},
		{start + "x 0 0 180 200\n", 5, api.ErrForm},
		{start + "0 0 180 200\n", 5, api.ErrForm},
		{start + "corner 0 0 0 0\n", 5, api.ErrForm},
		{start + "hole 5 2\n", 5, api.ErrForm},
		{start + "mark 5 2\n", 5, api.ErrForm},
	})
}

// A text of lines that are all right is the text of a skin that may be, or has the error of one that may not.
func TestParseChecks(t *testing.T) {
	const start = skinLine + corners
	parseAll(t, []parsed{
		{"skin 1001 100 300\n" + corners, 0, api.ErrArg},
		{"skin 2 300 100\n" + corners, 0, api.ErrArg},
		{"skin 2 -1 300\n" + corners, 0, api.ErrArg},
		{"skin 2 100 9999999999\n" + corners, 0, api.ErrArg},
		{start + "corner -1 0\n", 0, api.ErrArg},
		{start + "corner 0 401\n", 0, api.ErrArg},
		{start + "corner 0 0\n", 0, api.ErrTwice},
		{start + "corner 20 20\n", 0, api.ErrScope},
		{start + strings.Repeat("corner 1 1\n", 10), 0, api.ErrArg},
		{start + strings.Repeat(holeLine, 6), 0, api.OK},
		{start + strings.Repeat(holeLine, 7), 0, api.ErrLimit},
		{start + "hole 9 6 5 2\n", 0, api.ErrArg},
		{start + "hole -9999999999 0 9999999999 1\n", 0, api.OK},
		{start + strings.Repeat(markLine, 41), 0, api.ErrLimit},
		{start + strings.Repeat(markLine, 2), 0, api.ErrState},
		{start + holeLine + "mark 6 3 180 200\n", 0, api.ErrNone},
		{start + "mark -1 9999999999 180 200\n", 0, api.ErrNone},
		{start + "mark 0 0 200 180\n", 0, api.ErrArg},
		{start + "mark 0 0 80 99\n", 0, api.ErrClash},
		{start + markLine + "mark 1 0 203 210\n", 0, api.ErrClash},
	})
	want := of(api.Area{Outline: outline(0, 0, 20, 0, 0, 20), Holes: []api.Box{box(5, 2, 9, 6), box(-3, -4, 0, 1)}}, 2, span(100, 300), mark(0, 0, 180, 200), mark(3, 1, 190, 195))
	if s, line, e := wear.Parse(start + holeLine + "hole -3 -4 0 1\n" + markLine + "mark 3 1 190 195"); e != api.OK || line != 0 || !sameSkin(s, want) {
		t.Error(s, line, e)
	}
}

func TestParseLimit(t *testing.T) {
	const start = skinLine + corners
	fill := func(n int) string {
		return start + holeLine + "x" + strings.Repeat("y", n-len(start)-len(holeLine)-1)
	}
	many := start + strings.Repeat(holeLine, (api.MaxText-len(start))/len(holeLine))
	parseAll(t, []parsed{
		{fill(api.MaxText), 6, api.ErrForm},
		{fill(api.MaxText + 1), 0, api.ErrLimit},
		{strings.Repeat("\n", api.MaxText), 1, api.ErrForm},
		{strings.Repeat("\n", api.MaxText+1), 0, api.ErrLimit},
		{many, 0, api.ErrLimit},
		{many + "\n", 5 + strings.Count(many, "hole"), api.ErrForm},
		{many + holeLine, 0, api.ErrLimit},
	})
}

// Each word of a good text is wrong in its own way.
func TestParseChangedWords(t *testing.T) {
	lines := strings.Split(strings.TrimSuffix(exampleText, "\n"), "\n")
	for i, line := range lines {
		for k := range strings.Split(line, " ") {
			for _, word := range []string{"", "-", "X1", "01", "-0", strconv.Itoa(1 << 40)} {
				words := strings.Split(line, " ")
				words[k] = word
				changed := slices.Clone(lines)
				changed[i] = strings.Join(words, " ")
				parseAll(t, []parsed{{strings.Join(changed, "\n"), i + 1, api.ErrForm}})
			}
		}
	}
}
