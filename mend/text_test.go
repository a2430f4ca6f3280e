package mend_test

import (
	"math/rand"
	"slices"
	"strconv"
	"strings"
	"testing"

	"thatch/api"
	"thatch/mend"
)

// P8.5 (Print, Parse), P8.8 (there and back).

func TestPrint(t *testing.T) {
	for _, c := range []struct {
		w    api.Works
		want string
	}{
		{example(), exampleText},
		{works(0, 0, 0, nil, slope(0, 0, 1, 1)), "works 0 0 0\nslope 0 0 1 1\n"},
		{
			works(40, 1000000, 4, crafts(strip(10000), add(0, 0), add(1000, 10000), strip(0)), slope(1, 2, 1000, 1000, 500, 0, 3), slope(9, 8, 9, 7), slope(6, 5, 9, 4, 1)),
			"works 40 1000000 4\nslope 1 2 1000 1000 500 0 3\nslope 9 8 9 7\nslope 6 5 9 4 1\nstrip 10000\nadd 0 0\nadd 1000 10000\nstrip 0\n",
		},
		{works(1, 2, 3, nil, slope(1, 1, 1, 1, 1, 2, 3, 4, 5, 6, 7, 8, 9, 10, 11, 12)), "works 1 2 3\nslope 1 1 1 1 1 2 3 4 5 6 7 8 9 10 11 12\n"},
	} {
		if text, e := mend.Print(c.w); e != api.OK || text != c.want {
			t.Errorf("%q %d", text, e)
		}
		for _, text := range []string{c.want, strings.TrimSuffix(c.want, "\n")} {
			if w, line, e := mend.Parse(text); e != api.OK || line != 0 || !sameWorks(w, c.w) {
				t.Errorf("%q: %v %d %d", text, w, line, e)
			}
		}
	}
	for _, c := range []struct {
		w    api.Works
		want api.Errno
	}{
		{api.Works{}, api.ErrArg},
		{changed(func(w *api.Works) { w.Slopes = make([]api.Slope, 5) }), api.ErrLimit},
		{changed(func(w *api.Works) { w.Crafts[1].Add = 1 }), api.ErrArg},
	} {
		if text, e := mend.Print(c.w); e != c.want || text != "" {
			t.Errorf("%q %d", text, e)
		}
	}
}

func TestPrintIsParsed(t *testing.T) {
	rng := rand.New(rand.NewSource(137))
	for range 3000 {
		w := randomWorks(rng, 4, 4, 40)
		text, e := mend.Print(w)
		if e != api.OK {
			t.Fatal(w, e)
		}
		if again, line, e := mend.Parse(text); e != api.OK || line != 0 || !sameWorks(again, w) {
			t.Fatal(w, again, line, e)
		}
	}
}

const (
	worksLine = "works 3 10 1\n"
	slopeLine = "slope 50 30 60 2 15\n"
	addLine   = "add 20 7\n"
	stripLine = "strip 30\n"
)

// parsed is a text, and which line of it is wrong how.
type parsed struct {
	text string
	line int
	want api.Errno
}

func parseAll(t *testing.T, list []parsed) {
	t.Helper()
	for _, c := range list {
		if w, line, e := mend.Parse(c.text); e != c.want || line != c.line || e != api.OK && !sameWorks(w, api.Works{}) {
			t.Errorf("%q: line %d, error %d; %v", c.text, line, e, w)
		}
	}
}

func TestParseOrder(t *testing.T) {
	const start = worksLine + slopeLine
	parseAll(t, []parsed{
		{start, 0, api.OK},
		{start + addLine, 0, api.OK},
		{start + stripLine, 0, api.OK},
		{start + stripLine + addLine + stripLine + addLine, 0, api.OK},
		{start + slopeLine + slopeLine + slopeLine + "strip 1", 0, api.OK},
		{"", 0, api.ErrForm},
		{"\n", 1, api.ErrForm},
		{"\n" + start, 1, api.ErrForm},
		{start + "\n", 3, api.ErrForm},
		{start + "\n" + addLine, 3, api.ErrForm},
		{start + addLine + "\n", 4, api.ErrForm},
		{worksLine + "\n" + slopeLine, 2, api.ErrForm},
		{slopeLine, 1, api.ErrForm},
		{slopeLine + worksLine, 1, api.ErrForm},
		{addLine, 1, api.ErrForm},
		{stripLine, 1, api.ErrForm},
		{worksLine + worksLine + slopeLine, 2, api.ErrForm},
		{start + worksLine, 3, api.ErrForm},
		{start + addLine + worksLine, 4, api.ErrForm},
		{start + addLine + slopeLine, 4, api.ErrForm},
		{start + stripLine + slopeLine, 4, api.ErrForm},
		{worksLine + addLine + slopeLine, 3, api.ErrForm},
		{worksLine, 0, api.ErrArg},
		{worksLine + addLine, 0, api.ErrArg},
		{worksLine + stripLine, 0, api.ErrArg},
	})
}

func TestParseLines(t *testing.T) {
	const start = worksLine + slopeLine
	parseAll(t, []parsed{
		{"works", 1, api.ErrForm},
		{"works 3 10", 1, api.ErrForm},
		{"works 3 10 1 1", 1, api.ErrForm},
		{"works 3 10 1 ", 1, api.ErrForm},
		{" works 3 10 1", 1, api.ErrForm},
		{"works  3 10 1", 1, api.ErrForm},
		{"works 3\t10 1", 1, api.ErrForm},
		{"works 3 10 1\r\n", 1, api.ErrForm},
		{"Works 3 10 1", 1, api.ErrForm},
		{"work 3 10 1", 1, api.ErrForm},
		{"3 10 1", 1, api.ErrForm},
		{"works x 10 1", 1, api.ErrForm},
		{"works 03 10 1", 1, api.ErrForm},
		{"works 3 +10 1", 1, api.ErrForm},
		{"works 3 10 -0", 1, api.ErrForm},
		{"works 3 10000000000 1", 1, api.ErrForm},
		{worksLine + "slope", 2, api.ErrForm},
		{worksLine + "slope 50 30 60", 2, api.ErrForm},
		{worksLine + "slope 50 30 60 2 ", 2, api.ErrForm},
		{worksLine + "slope 50 30 60 2 x", 2, api.ErrForm},
		{worksLine + "slope 50 30 60 2 15 015", 2, api.ErrForm},
		{worksLine + "slope 50 30 60 2  15", 2, api.ErrForm},
		{worksLine + "slopes 50 30 60 2 15", 2, api.ErrForm},
		{worksLine + slopeLine + "slope 50 30 60 two\n", 3, api.ErrForm},
		{start + "add", 3, api.ErrForm},
		{start + "add 20", 3, api.ErrForm},
		{start + "add 20 7 1", 3, api.ErrForm},
		{start + "add 20 ", 3, api.ErrForm},
		{start + "add 20 7\n\n", 4, api.ErrForm},
		{start + "add 20 0007", 3, api.ErrForm},
		{start + "Add 20 7", 3, api.ErrForm},
		{start + "strip", 3, api.ErrForm},
		{start + "strip 30 1", 3, api.ErrForm},
		{start + "strip  30", 3, api.ErrForm},
		{start + "strip -", 3, api.ErrForm},
		{start + "strips 30", 3, api.ErrForm},
		{start + "20 7", 3, api.ErrForm},
		{start + addLine + stripLine + "x", 5, api.ErrForm},
	})
}

// A text of lines that are all right is the text of works that may be, or has the error of ones that may not.
func TestParseChecks(t *testing.T) {
	const start = worksLine + slopeLine
	parseAll(t, []parsed{
		{"works -1 10 1\n" + slopeLine, 0, api.ErrArg},
		{"works 41 10 1\n" + slopeLine, 0, api.ErrArg},
		{"works 3 9999999999 1\n" + slopeLine, 0, api.ErrArg},
		{"works 3 10 5\n" + slopeLine, 0, api.ErrArg},
		{worksLine + strings.Repeat(slopeLine, 4), 0, api.OK},
		{worksLine + strings.Repeat(slopeLine, 5), 0, api.ErrLimit},
		{worksLine + "slope 61 30 60 2\n", 0, api.ErrArg},
		{worksLine + "slope -9999999999 30 60 2\n", 0, api.ErrArg},
		{worksLine + "slope 50 30 60 2" + strings.Repeat(" 9", 12) + "\n", 0, api.OK},
		{worksLine + "slope 50 30 60 2" + strings.Repeat(" 9", 13) + "\n", 0, api.ErrLimit},
		{worksLine + "slope 50 30 60 2 -1\n", 0, api.ErrArg},
		{start + strings.Repeat(addLine, 4), 0, api.OK},
		{start + strings.Repeat(stripLine, 5), 0, api.ErrLimit},
		{start + "add -1 7\n", 0, api.ErrArg},
		{start + "add 20 10001\n", 0, api.ErrArg},
		{start + "strip -1\n", 0, api.ErrArg},
	})
	want := works(7, 8, 2, crafts(strip(5), add(6, 4)), slope(1, 0, 3, 9), slope(2, 1, 4, 8, 3, 2))
	if w, line, e := mend.Parse("works 7 8 2\nslope 1 0 3 9\nslope 2 1 4 8 3 2\nstrip 5\nadd 6 4"); e != api.OK || line != 0 || !sameWorks(w, want) {
		t.Error(w, line, e)
	}
}

func TestParseLimit(t *testing.T) {
	const start = worksLine + slopeLine
	fill := func(n int) string { return start + "x" + strings.Repeat("y", n-len(start)-1) }
	many := start + strings.Repeat(addLine, (api.MaxText-len(start))/len(addLine))
	parseAll(t, []parsed{
		{fill(api.MaxText), 3, api.ErrForm},
		{fill(api.MaxText + 1), 0, api.ErrLimit},
		{strings.Repeat("\n", api.MaxText), 1, api.ErrForm},
		{strings.Repeat("\n", api.MaxText+1), 0, api.ErrLimit},
		{many, 0, api.ErrLimit},
		{many + "\n", 3 + strings.Count(many, "add"), api.ErrForm},
		{many + addLine, 0, api.ErrLimit},
	})
}

// Each word of a good text is wrong in its own way.
func TestParseChangedWords(t *testing.T) {
	lines := strings.Split(strings.TrimSuffix(exampleText, "\n"), "\n")
	for i, line := range lines {
		for k := range strings.Split(line, " ") {
			for _, word := range []string{"", "-", "X1", "01", "-0", strconv.Itoa(1 << 40)} {
				words := strings.Split(line, " ")
				words[k] = word
				changed := slices.Clone(lines)
				changed[i] = strings.Join(words, " ")
				parseAll(t, []parsed{{strings.Join(changed, "\n"), i + 1, api.ErrForm}})
			}
		}
	}
}
