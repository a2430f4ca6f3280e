package straw_test

import (
	"math/rand"
	"slices"
	"strconv"
	"strings"
	"testing"

	"thatch/api"
	"thatch/straw"
)

// P2.5 (Print, Parse).

func TestPrint(t *testing.T) {
	moor := api.Plot{Name: "moor-2", Crop: api.CrHeather, Size: 100, Yield: span(0, 1000), Rest: 100, Wet: span(0, 1000), Cost: 1000000}
	for _, c := range []struct {
		f    api.Farm
		want string
	}{
		{api.Farm{}, "farm 0\n"},
		{api.Farm{Dry: 1000}, "farm 1000\n"},
		{farm(), farmText},
		{api.Farm{Dry: 7, Plots: []api.Plot{moor}}, "farm 7\nfield moor-2 heather 100 0 1000 100 0 1000 1000000\n"},
	} {
		if s, e := straw.Print(c.f); e != api.OK || s != c.want {
			t.Errorf("%q %d", s, e)
		}
		for _, text := range []string{c.want, strings.TrimSuffix(c.want, "\n")} {
			if f, n, e := straw.Parse(text); e != api.OK || n != 0 || !sameFarm(f, c.f) {
				t.Errorf("%q: %v %d %d", text, f, n, e)
			}
		}
	}
	if s, e := straw.Print(api.Farm{Dry: 1001}); e != api.ErrArg || s != "" {
		t.Error(s, e)
	}
}

func TestPrintIsParsed(t *testing.T) {
	rng := rand.New(rand.NewSource(25))
	for range 500 {
		f := randomFarm(rng, api.MaxPlots)
		s, e := straw.Print(f)
		if e != api.OK {
			t.Fatal(e)
		}
		if b, n, e := straw.Parse(s); e != api.OK || n != 0 || !sameFarm(b, f) {
			t.Fatal(f, b, n, e)
		}
	}
}

const fieldLine = "field a reed 1 2 3 4 5 6 7\n"

func TestParse(t *testing.T) {
	want := api.Farm{Dry: 8, Plots: []api.Plot{{Name: "a", Crop: api.CrReed, Size: 1, Yield: span(2, 3), Rest: 4, Wet: span(5, 6), Cost: 7}}}
	if f, n, e := straw.Parse("farm 8\n" + fieldLine); e != api.OK || n != 0 || !sameFarm(f, want) {
		t.Error(f, n, e)
	}
	for _, c := range []struct {
		text string
		line int
		want api.Errno
	}{
		{"", 0, api.ErrForm},
		{"\n", 1, api.ErrForm},
		{"\nfarm 8", 1, api.ErrForm},
		{"farm", 1, api.ErrForm},
		{"farm ", 1, api.ErrForm},
		{"farm 8 ", 1, api.ErrForm},
		{" farm 8", 1, api.ErrForm},
		{"farm  8", 1, api.ErrForm},
		{"farm 8 8", 1, api.ErrForm},
		{"Farm 8", 1, api.ErrForm},
		{"farm x", 1, api.ErrForm},
		{"farm 08", 1, api.ErrForm},
		{"farm +8", 1, api.ErrForm},
		{"farm -0", 1, api.ErrForm},
		{"farm 8\r\n", 1, api.ErrForm},
		{"farm\t8", 1, api.ErrForm},
		{"farm -1", 0, api.ErrArg},
		{"farm 9999999999", 0, api.ErrArg},
		{"farm 10000000000", 1, api.ErrForm},
		{fieldLine, 1, api.ErrForm},
		{fieldLine + "farm 8\n", 1, api.ErrForm},
		{"farm 8\nfarm 8\n", 2, api.ErrForm},
		{"farm 8\n\n", 2, api.ErrForm},
		{"farm 8\n\n" + fieldLine, 2, api.ErrForm},
		{"farm 8\n" + fieldLine + "\n", 3, api.ErrForm},
		{"farm 8\n" + fieldLine + "field", 3, api.ErrForm},
		{"farm 8\nfields a reed 1 2 3 4 5 6 7", 2, api.ErrForm},
		{"farm 8\nfield a reed 1 2 3 4 5 6", 2, api.ErrForm},
		{"farm 8\nfield a reed 1 2 3 4 5 6 7 8", 2, api.ErrForm},
		{"farm 8\nfield a reed 1 2 3 4 5 6 7 ", 2, api.ErrForm},
		{"farm 8\n field a reed 1 2 3 4 5 6 7", 2, api.ErrForm},
		{"farm 8\nfield  a reed 1 2 3 4 5 6 7", 2, api.ErrForm},
		{"farm 8\nfield  reed 1 2 3 4 5 6 7", 2, api.ErrForm},
		{"farm 8\nfield a  1 2 3 4 5 6 7", 2, api.ErrForm},
		{"farm 8\nfield a Reed 1 2 3 4 5 6 7", 2, api.ErrForm},
		{"farm 8\nfield a hay 1 2 3 4 5 6 7", 2, api.ErrForm},
		{"farm 8\nfield a 1 1 2 3 4 5 6 7", 2, api.ErrForm},
		{"farm 8\nfield reed a 1 2 3 4 5 6 7", 2, api.ErrForm},
		{"farm 8\nfield a reed 1 2 3 4 5 6 7\r\n", 2, api.ErrForm},
		{"farm 8\nfield A reed 1 2 3 4 5 6 7", 0, api.ErrName},
		{"farm 8\nfield a\t reed 1 2 3 4 5 6 7", 0, api.ErrName},
		{"farm 8\nfield a reed 1 3 2 4 5 6 7", 0, api.ErrArg},
		{"farm 8\nfield a reed 1 2 3 4 5 -6 7", 0, api.ErrArg},
		{"farm 8\nfield a reed 1 2 3 4 5 6 9999999999", 0, api.ErrArg},
		{"farm 8\n" + fieldLine + fieldLine, 0, api.ErrTwice},
		{"farm 1001\n" + fieldLine + fieldLine, 0, api.ErrTwice},
		{"farm 8\n" + strings.Repeat(fieldLine, 13), 0, api.ErrLimit},
		{"farm 8\n" + strings.Repeat(fieldLine, 13) + "x", 15, api.ErrForm},
		{"farm 1001\nx\ny\n", 2, api.ErrForm},
	} {
		if f, n, e := straw.Parse(c.text); e != c.want || n != c.line || !sameFarm(f, api.Farm{}) {
			t.Errorf("%q: line %d, error %d; %v", c.text, n, e, f)
		}
	}
}

func TestParseLimit(t *testing.T) {
	ahead, behind := "farm 8\nfield ", " reed 1 2 3 4 5 6 7"
	name := strings.Repeat("x", api.MaxText-len(ahead)-len(behind))
	for _, c := range []struct {
		text string
		line int
		want api.Errno
	}{
		{ahead + name + behind, 0, api.ErrName},
		{ahead + name + behind + "\n", 0, api.ErrLimit},
		{strings.Repeat("\n", api.MaxText), 1, api.ErrForm},
		{strings.Repeat("\n", api.MaxText+1), 0, api.ErrLimit},
	} {
		if f, n, e := straw.Parse(c.text); e != c.want || n != c.line || !sameFarm(f, api.Farm{}) {
			t.Error(len(c.text), n, e)
		}
	}
}

// Each word of a good line is wrong in its own way.
func TestParseChangedWords(t *testing.T) {
	lines := strings.Split(strings.TrimSuffix(farmText, "\n"), "\n")
	for i, line := range lines {
		for k := range strings.Split(line, " ") {
			for _, word := range []string{"", "-", "X1", "01", "-0", strconv.Itoa(1 << 40)} {
				words := strings.Split(line, " ")
				words[k] = word
				changed := slices.Clone(lines)
				changed[i] = strings.Join(words, " ")
				wantLine, want := i+1, api.ErrForm
				if i > 0 && k == 1 && word != "" {
					wantLine, want = 0, api.ErrName
				}
				text := strings.Join(changed, "\n")
				if f, n, e := straw.Parse(text); e != want || n != wantLine || !sameFarm(f, api.Farm{}) {
					t.Errorf("%q: line %d, error %d", text, n, e)
				}
			}
		}
	}
}
