package fire_test

import (
	"math/rand"
	"slices"
	"strconv"
	"strings"
	"testing"

	"thatch/api"
	"thatch/fire"
)

// P9.6 (Print, Parse), P9.10 (there and back).

func TestPrint(t *testing.T) {
	for _, c := range []struct {
		g    api.Ground
		want string
	}{
		{example(), exampleText},
		{api.Ground{}, "ground 0\n"},
		{api.Ground{Base: 10000}, "ground 10000\n"},
		{api.Ground{Sites: []string{"x-1", "a"}, Sparks: []api.Spark{spark(1, 5), spark(0, 100000), spark(1, 5)}}, "ground 0\nsite x-1\nsite a\nspark a 5\nspark x-1 100000\nspark a 5\n"},
		{
			api.Ground{
				Sites:  []string{"x", "y"},
				Paths:  []api.Path{path(1, 0, 1, 10000), path(0, 1, 3, 4)},
				Strips: []api.Strip{strip("y", 0, 7, 8), strip("z", 1, 10000, 10000, 0, 1)},
				Base:   9,
			},
			"ground 9\nsite x\nsite y\npath y x 1 10000\npath x y 3 4\nstrip y x 7 8\nstrip z y 10000 10000 0 1\n",
		},
	} {
		if text, e := fire.Print(c.g); e != api.OK || text != c.want {
			t.Errorf("%q %d", text, e)
		}
		for _, text := range []string{c.want, strings.TrimSuffix(c.want, "\n")} {
			if g, line, e := fire.Parse(text); e != api.OK || line != 0 || !sameGround(g, c.g) {
				t.Errorf("%q: %v %d %d", text, g, line, e)
			}
		}
	}
	for _, c := range []struct {
		g    api.Ground
		want api.Errno
	}{
		{changed(func(g *api.Ground) { g.Sites = names(25) }), api.ErrLimit},
		{changed(func(g *api.Ground) { g.Paths[1].To = 3 }), api.ErrNone},
		{changed(func(g *api.Ground) { g.Base = -1 }), api.ErrArg},
	} {
		if text, e := fire.Print(c.g); e != c.want || text != "" {
			t.Errorf("%q %d", text, e)
		}
	}
}

func TestPrintIsParsed(t *testing.T) {
	rng := rand.New(rand.NewSource(157))
	grounds := []api.Ground{full()}
	for i := range 2000 {
		grounds = append(grounds, randomGround(rng, []size{small, some, large}[i%3]))
	}
	for _, g := range grounds {
		text, e := fire.Print(g)
		if e != api.OK {
			t.Fatal(g, e)
		}
		if again, line, e := fire.Parse(text); e != api.OK || line != 0 || !sameGround(again, g) {
			t.Fatal(g, again, line, e)
		}
	}
}

const (
	groundLine = "ground 0\n"
	siteLine   = "site a\n"
	otherLine  = "site b\n"
	pathLine   = "path a b 1 2\n"
	stripLine  = "strip x a 3 4 0\n"
	sparkLine  = "spark b 5\n"

	siteLines = groundLine + siteLine + otherLine
)

// parsed is a text, and which line of it is wrong how.
type parsed struct {
	text string
	line int
	want api.Errno
}

func parseAll(t *testing.T, list []parsed) {
	t.Helper()
	for _, c := range list {
		if g, line, e := fire.Parse(c.text); e != c.want || line != c.line || e != api.OK && !sameGround(g, api.Ground{}) {
			t.Errorf("%q: line %d, error %d; %v", c.text, line, e, g)
		}
	}
}

func TestParseOrder(t *testing.T) {
	parseAll(t, []parsed{
		{"", 0, api.ErrForm},
		{"\n", 1, api.ErrForm},
		{"\n" + siteLines, 1, api.ErrForm},
		{groundLine, 0, api.OK},
		{groundLine + "\n", 2, api.ErrForm},
		{groundLine + "\n" + siteLine, 2, api.ErrForm},
		{siteLine, 1, api.ErrForm},
		{siteLine + groundLine, 1, api.ErrForm},
		{pathLine, 1, api.ErrForm},
		{stripLine, 1, api.ErrForm},
		{sparkLine, 1, api.ErrForm},
		{groundLine + groundLine, 2, api.ErrForm},
		{siteLines + groundLine, 4, api.ErrForm},
		{siteLines + pathLine + groundLine, 5, api.ErrForm},
		{siteLines + pathLine + stripLine + sparkLine, 0, api.OK},
		{siteLines + pathLine + pathLine + stripLine + sparkLine + sparkLine, 0, api.OK},
		{siteLines + sparkLine, 0, api.OK},
		{siteLines + pathLine + "site c\n", 5, api.ErrForm},
		{siteLines + "strip x a 3 4\n" + "site c\n", 5, api.ErrForm},
		{siteLines + "strip x a 3 4\n" + pathLine, 5, api.ErrForm},
		{siteLines + sparkLine + "site c\n", 5, api.ErrForm},
		{siteLines + sparkLine + pathLine, 5, api.ErrForm},
		{siteLines + sparkLine + "strip x a 3 4\n", 5, api.ErrForm},
		{siteLines + pathLine + stripLine + sparkLine + stripLine, 7, api.ErrForm},
		{siteLines + pathLine + stripLine + sparkLine + "\n", 7, api.ErrForm},
	})
}

func TestParseLines(t *testing.T) {
	const strips = siteLines + pathLine
	parseAll(t, []parsed{
		{"ground", 1, api.ErrForm},
		{"ground ", 1, api.ErrForm},
		{"ground 0 0", 1, api.ErrForm},
		{"ground  0", 1, api.ErrForm},
		{" ground 0", 1, api.ErrForm},
		{"ground 0 ", 1, api.ErrForm},
		{"ground\t0", 1, api.ErrForm},
		{"ground 0\r\n", 1, api.ErrForm},
		{"Ground 0", 1, api.ErrForm},
		{"grounds 0", 1, api.ErrForm},
		{"0", 1, api.ErrForm},
		{"ground x", 1, api.ErrForm},
		{"ground 00", 1, api.ErrForm},
		{"ground +1", 1, api.ErrForm},
		{"ground -0", 1, api.ErrForm},
		{"ground 10000000000", 1, api.ErrForm},
		{groundLine + "site", 2, api.ErrForm},
		{groundLine + "site ", 2, api.ErrForm},
		{groundLine + "site  a", 2, api.ErrForm},
		{groundLine + "site a ", 2, api.ErrForm},
		{groundLine + "site a b", 2, api.ErrForm},
		{groundLine + "site a 1", 2, api.ErrForm},
		{groundLine + "Site a", 2, api.ErrForm},
		{siteLines + "path", 4, api.ErrForm},
		{siteLines + "path a", 4, api.ErrForm},
		{siteLines + "path a b", 4, api.ErrForm},
		{siteLines + "path a b 1", 4, api.ErrForm},
		{siteLines + "path a b 1 2 3", 4, api.ErrForm},
		{siteLines + "path a b 1 x", 4, api.ErrForm},
		{siteLines + "path a b 01 2", 4, api.ErrForm},
		{siteLines + "path a  1 2", 4, api.ErrForm},
		{siteLines + "path  b 1 2", 4, api.ErrForm},
		{siteLines + "path a b 1 2 ", 4, api.ErrForm},
		{siteLines + "path 1 2 a b", 4, api.ErrForm},
		{strips + "strip", 5, api.ErrForm},
		{strips + "strip x", 5, api.ErrForm},
		{strips + "strip x a", 5, api.ErrForm},
		{strips + "strip x a 3", 5, api.ErrForm},
		{strips + "strip x a 3 y", 5, api.ErrForm},
		{strips + "strip x a 3 4 ", 5, api.ErrForm},
		{strips + "strip x a 3 4 y", 5, api.ErrForm},
		{strips + "strip x a 3 4 00", 5, api.ErrForm},
		{strips + "strip x a 3 4 0  1", 5, api.ErrForm},
		{strips + "strip  a 3 4 0", 5, api.ErrForm},
		{strips + "strip x  3 4 0", 5, api.ErrForm},
		{siteLines + "spark", 4, api.ErrForm},
		{siteLines + "spark a", 4, api.ErrForm},
		{siteLines + "spark a 1 1", 4, api.ErrForm},
		{siteLines + "spark a x", 4, api.ErrForm},
		{siteLines + "spark  1", 4, api.ErrForm},
		{siteLines + "spark 1 a", 4, api.ErrForm},
		{siteLines + sparkLine + "x", 5, api.ErrForm},
	})
}

func TestParseSites(t *testing.T) {
	parseAll(t, []parsed{
		{groundLine + pathLine, 2, api.ErrNone},
		{groundLine + siteLine + pathLine, 3, api.ErrNone},
		{groundLine + otherLine + pathLine, 3, api.ErrNone},
		{siteLines + "path a c 1 2", 4, api.ErrNone},
		{siteLines + "path c a 1 2", 4, api.ErrNone},
		{siteLines + "path a A 1 2", 4, api.ErrNone},
		{siteLines + "path 0 1 1 2", 4, api.ErrNone},
		{siteLines + "path a c 1 2\nx", 4, api.ErrNone},
		{siteLines + "path a c 1 2\nsite c", 4, api.ErrNone},
		{siteLines + "x\npath a c 1 2", 4, api.ErrForm},
		{siteLines + "path a c 1 x", 4, api.ErrForm},
		{siteLines + "path a c 1", 4, api.ErrForm},
		{siteLines + "path a c 1 9999999999", 4, api.ErrNone},
		{siteLines + "strip x c 3 4", 4, api.ErrNone},
		{siteLines + "strip x x 3 4", 4, api.ErrNone},
		{siteLines + "strip x c 3 4 y", 4, api.ErrForm},
		{siteLines + "strip x c 3", 4, api.ErrForm},
		{siteLines + "spark c 5", 4, api.ErrNone},
		{siteLines + "spark c y", 4, api.ErrForm},
		{siteLines + "spark c 5 5", 4, api.ErrForm},
		{siteLines + pathLine + stripLine + "spark x 5", 6, api.ErrNone},
		{groundLine + "spark a 5\n" + siteLine, 2, api.ErrNone},
	})
}

// A text of lines that are all right is the text of a ground that may be, or has the error of one that may not.
func TestParseChecks(t *testing.T) {
	sites := func(count int) string { return groundLine + "site " + strings.Join(names(count), "\nsite ") + "\n" }
	parseAll(t, []parsed{
		{"ground -1\n", 0, api.ErrArg},
		{"ground 10001\n", 0, api.ErrArg},
		{"ground 9999999999\n", 0, api.ErrArg},
		{groundLine + "site A\n", 0, api.ErrName},
		{groundLine + "site 7\n", 0, api.ErrName},
		{groundLine + "site a\xff\n", 0, api.ErrName},
		{groundLine + "site A\nspark A 5\n", 0, api.ErrName},
		{groundLine + siteLine + siteLine, 0, api.ErrTwice},
		{groundLine + siteLine + siteLine + otherLine + pathLine, 0, api.ErrTwice},
		{groundLine + siteLine + siteLine + "x", 4, api.ErrForm},
		{sites(24), 0, api.OK},
		{sites(25), 0, api.ErrLimit},
		{sites(25) + "x", 27, api.ErrForm},
		{siteLines + "path a a 1 2\n", 0, api.ErrArg},
		{siteLines + "path a b 0 2\n", 0, api.ErrArg},
		{siteLines + "path a b 2 1\n", 0, api.ErrArg},
		{siteLines + "path a b 1 10001\n", 0, api.ErrArg},
		{siteLines + "path b a -9999999999 9999999999\n", 0, api.ErrArg},
		{siteLines + strings.Repeat(pathLine, 64), 0, api.OK},
		{siteLines + strings.Repeat(pathLine, 65), 0, api.ErrLimit},
		{siteLines + pathLine + stripLine + stripLine, 0, api.ErrTwice},
		{siteLines + pathLine + "strip X a 3 4\n", 0, api.ErrName},
		{siteLines + pathLine + "strip x a -1 4\n", 0, api.ErrArg},
		{siteLines + pathLine + "strip x a 3 10001\n", 0, api.ErrArg},
		{siteLines + pathLine + "strip x a 3 4 0 0\n", 0, api.ErrArg},
		{siteLines + pathLine + "strip x a 3 4 0 1\n", 0, api.ErrNone},
		{siteLines + pathLine + "strip x a 3 4 -1\n", 0, api.ErrNone},
		{siteLines + stripLine, 0, api.ErrNone},
		{siteLines + "spark a -1\n", 0, api.ErrArg},
		{siteLines + "spark a 100001\n", 0, api.ErrArg},
		{siteLines + strings.Repeat(sparkLine, 24), 0, api.OK},
		{siteLines + strings.Repeat(sparkLine, 25), 0, api.ErrLimit},
	})
	want := api.Ground{
		Sites:  []string{"b", "a"},
		Paths:  []api.Path{path(1, 0, 3, 9), path(0, 1, 2, 2)},
		Strips: []api.Strip{strip("a", 1, 8, 7, 1), strip("b", 0, 6, 5), strip("c", 1, 4, 3, 0, 1)},
		Sparks: []api.Spark{spark(1, 11), spark(0, 12)},
		Base:   13,
	}
	if g, line, e := fire.Parse("ground 13\nsite b\nsite a\npath a b 3 9\npath b a 2 2\nstrip a a 8 7 1\nstrip b b 6 5\nstrip c a 4 3 0 1\nspark a 11\nspark b 12"); e != api.OK || line != 0 || !sameGround(g, want) {
		t.Error(g, line, e)
	}
}

func TestParseLimit(t *testing.T) {
	fill := func(start string, n int) string { return start + strings.Repeat("y", n-len(start)) }
	many := groundLine + siteLine + otherLine + strings.Repeat(pathLine, (api.MaxText-len(siteLines))/len(pathLine))
	parseAll(t, []parsed{
		{fill(siteLines, api.MaxText), 4, api.ErrForm},
		{fill(siteLines, api.MaxText+1), 0, api.ErrLimit},
		{fill(groundLine+"site ", api.MaxText), 0, api.ErrName},
		{fill(groundLine+"site ", api.MaxText) + "\n", 0, api.ErrLimit},
		{strings.Repeat("\n", api.MaxText), 1, api.ErrForm},
		{strings.Repeat("\n", api.MaxText+1), 0, api.ErrLimit},
		{many, 0, api.ErrLimit},
		{many + "\n", 4 + strings.Count(many, "path"), api.ErrForm},
		{many + pathLine, 0, api.ErrLimit},
	})
}

// Each word of a good text is wrong in its own way.
func TestParseChangedWords(t *testing.T) {
	lines := strings.Split(strings.TrimSuffix(exampleText, "\n"), "\n")
	// Which words of a line are names, and which are names of sites that must be there.
	named := map[string][]int{"site": {1}, "path": {1, 2}, "strip": {1, 2}, "spark": {1}}
	known := map[string][]int{"path": {1, 2}, "strip": {2}, "spark": {1}}
	for i, line := range lines {
		for k := range strings.Split(line, " ") {
			for _, word := range []string{"", "-", "X1", "01", "-0", strconv.Itoa(1 << 40)} {
				words := strings.Split(line, " ")
				first := words[0]
				words[k] = word
				changed := slices.Clone(lines)
				changed[i] = strings.Join(words, " ")
				wantLine, want := i+1, api.ErrForm
				switch {
				case word == "" || k == 0:
				case slices.Contains(known[first], k):
					want = api.ErrNone
				case first == "site":
					// The first path that had its name finds it no more.
					wantLine, want = map[int]int{1: 5, 2: 5, 3: 6}[i], api.ErrNone
				case slices.Contains(named[first], k):
					wantLine, want = 0, api.ErrName
				}
				parseAll(t, []parsed{{strings.Join(changed, "\n"), wantLine, want}})
			}
		}
	}
}
