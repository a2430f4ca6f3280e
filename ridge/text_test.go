package ridge_test

import (
	"math/rand"
	"slices"
	"strconv"
	"strings"
	"testing"

	"thatch/api"
	"thatch/ridge"
)

// P6.6 (Print, Parse).

func TestPrint(t *testing.T) {
	for _, c := range []struct {
		r    api.Ridge
		want string
	}{
		{api.Ridge{}, "ridge 0 0 0\n"},
		{of(2000, 9, 8), "ridge 2000 9 8\n"},
		{example(), exampleText},
		{of(1, 2, 3, piece("z9-", 2000, 9, 9, 0)), "ridge 1 2 3\npiece z9- 2000 9 9 z9-\n"},
		{of(5, 0, 0, piece("piece", 4, 7, 8, 2), piece("mid", 2, 5, 5, 1), piece("ridge", 4, 8, 7, 0)), "ridge 5 0 0\npiece piece 4 7 8 ridge\npiece mid 2 5 5 mid\npiece ridge 4 8 7 piece\n"},
	} {
		if s, e := ridge.Print(c.r); e != api.OK || s != c.want {
			t.Errorf("%q %d", s, e)
		}
		for _, text := range []string{c.want, strings.TrimSuffix(c.want, "\n")} {
			if r, line, e := ridge.Parse(text); e != api.OK || line != 0 || !sameRidge(r, c.r) {
				t.Errorf("%q: %v %d %d", text, r, line, e)
			}
		}
	}
	for _, c := range []struct {
		r    api.Ridge
		want api.Errno
	}{
		{of(-1, 0, 0), api.ErrArg},
		{plain(5, 11, 1), api.ErrLimit},
		{changed(func(r *api.Ridge) { r.Pieces[0].Name = "A" }), api.ErrName},
		{changed(func(r *api.Ridge) { r.Pieces[0].Mirror = 4 }), api.ErrNone},
		{changed(func(r *api.Ridge) { r.Pieces[0].Mirror = -1 }), api.ErrNone},
		{changed(func(r *api.Ridge) { r.Pieces[0].Mirror = 1 }), api.ErrClash},
	} {
		if s, e := ridge.Print(c.r); e != c.want || s != "" {
			t.Errorf("%q %d", s, e)
		}
	}
}

func TestPrintIsParsed(t *testing.T) {
	rng := rand.New(rand.NewSource(85))
	for i := range 2000 {
		r := randomRidge(rng, []size{small, whole}[i%2])
		s, e := ridge.Print(r)
		if e != api.OK {
			t.Fatal(r, e)
		}
		if b, line, e := ridge.Parse(s); e != api.OK || line != 0 || !sameRidge(b, r) {
			t.Fatal(r, b, line, e)
		}
	}
}

const (
	ridgeLine = "ridge 1 2 3\n"
	upLine    = "piece up 1 0 4 down\n"
	downLine  = "piece down 1 4 0 up\n"
	ownLine   = "piece own 2 5 5 own\n"
)

func TestParse(t *testing.T) {
	want := of(1, 2, 3, piece("down", 1, 4, 0, 2), piece("own", 2, 5, 5, 1), piece("up", 1, 0, 4, 0))
	if r, line, e := ridge.Parse(ridgeLine + downLine + ownLine + upLine); e != api.OK || line != 0 || !sameRidge(r, want) {
		t.Error(r, line, e)
	}
	many := ridgeLine
	for i := range 11 {
		name := "p" + strconv.Itoa(i)
		many += "piece " + name + " 1 0 0 " + name + "\n"
	}
	for _, c := range []struct {
		text string
		line int
		want api.Errno
	}{
		{"", 0, api.ErrForm},
		{"\n", 1, api.ErrForm},
		{" ", 1, api.ErrForm},
		{"ridge", 1, api.ErrForm},
		{"ridge 1 2", 1, api.ErrForm},
		{"ridge 1 2 3 4", 1, api.ErrForm},
		{"ridge 1 2 3 ", 1, api.ErrForm},
		{" ridge 1 2 3", 1, api.ErrForm},
		{"ridge  1 2 3", 1, api.ErrForm},
		{"ridge  2 3", 1, api.ErrForm},
		{"ridge\t1 2 3", 1, api.ErrForm},
		{"ridge 1 2 3\r\n", 1, api.ErrForm},
		{"Ridge 1 2 3", 1, api.ErrForm},
		{"rod 1 2 3", 1, api.ErrForm},
		{"1 2 3", 1, api.ErrForm},
		{"ridge a 2 3", 1, api.ErrForm},
		{"ridge 1 02 3", 1, api.ErrForm},
		{"ridge 1 2 +3", 1, api.ErrForm},
		{"ridge -0 2 3", 1, api.ErrForm},
		{"ridge 1 2 10000000000", 1, api.ErrForm},
		{"ridge 9999999999 2 3", 0, api.ErrArg},
		{"ridge -1 2 3", 0, api.ErrArg},
		{"ridge 2001 2 3", 0, api.ErrArg},
		{"ridge 1 10 3", 0, api.ErrArg},
		{"ridge 1 2 10", 0, api.ErrArg},
		{ownLine, 1, api.ErrForm},
		{ownLine + ridgeLine, 1, api.ErrForm},
		{"\n" + ridgeLine, 1, api.ErrForm},
		{ridgeLine + "\n", 2, api.ErrForm},
		{ridgeLine + "\n" + ownLine, 2, api.ErrForm},
		{ridgeLine + ownLine + "\n", 3, api.ErrForm},
		{ridgeLine + ridgeLine, 2, api.ErrForm},
		{ridgeLine + ownLine + ridgeLine, 3, api.ErrForm},
		{ridgeLine + "piece", 2, api.ErrForm},
		{ridgeLine + "piece own 2 5 5", 2, api.ErrForm},
		{ridgeLine + "piece own 2 5 own", 2, api.ErrForm},
		{ridgeLine + "piece own 2 5 5 own own", 2, api.ErrForm},
		{ridgeLine + "piece own 2 5 5 own ", 2, api.ErrForm},
		{ridgeLine + "piece own 2 5 5 ", 2, api.ErrForm},
		{ridgeLine + "piece  2 5 5 own", 2, api.ErrForm},
		{ridgeLine + "piece  2 5 5 ", 2, api.ErrForm},
		{ridgeLine + " piece own 2 5 5 own", 2, api.ErrForm},
		{ridgeLine + "piece own  2 5 5 own", 2, api.ErrForm},
		{ridgeLine + "piece own\t2 5 5 own", 2, api.ErrForm},
		{ridgeLine + "Piece own 2 5 5 own", 2, api.ErrForm},
		{ridgeLine + "own 2 5 5 own", 2, api.ErrForm},
		{ridgeLine + "piece 2 5 5 own own", 2, api.ErrForm},
		{ridgeLine + "piece own 02 5 5 own", 2, api.ErrForm},
		{ridgeLine + "piece own 2 -0 5 own", 2, api.ErrForm},
		{ridgeLine + "piece own 2 5 x own", 2, api.ErrForm},
		{ridgeLine + "piece own 2 5 10000000000 own", 2, api.ErrForm},
		{ridgeLine + "piece own 2 5 5 own\r\n", 2, api.ErrNone},
		{ridgeLine + "piece own 2 5 5 other", 2, api.ErrNone},
		{ridgeLine + "piece own 2 5 5 0", 2, api.ErrNone},
		{ridgeLine + "piece own 2 5 5 Own", 2, api.ErrNone},
		{ridgeLine + upLine, 2, api.ErrNone},
		{ridgeLine + ownLine + upLine, 3, api.ErrNone},
		{ridgeLine + upLine + ownLine + "piece b 1 0 0 c", 2, api.ErrNone},
		{ridgeLine + upLine + downLine + "piece b 1 0 0 c\n" + ownLine, 4, api.ErrNone},
		{ridgeLine + upLine + "x", 3, api.ErrForm},
		{ridgeLine + upLine + "\n", 3, api.ErrForm},
		{"ridge 1 2 10\n" + upLine, 2, api.ErrNone},
		{ridgeLine + "piece own -1 5 5 own", 0, api.ErrArg},
		{ridgeLine + "piece own 9999999999 5 5 own", 0, api.ErrArg},
		{ridgeLine + "piece own 2 10 5 own", 0, api.ErrArg},
		{ridgeLine + "piece own 2 5 6 own", 0, api.ErrClash},
		{ridgeLine + "piece A 2 5 5 A", 0, api.ErrName},
		{ridgeLine + "piece a\t 2 5 5 a\t", 0, api.ErrName},
		{ridgeLine + "piece \xff 0 5 5 \xff", 0, api.ErrName},
		{ridgeLine + ownLine + ownLine, 0, api.ErrTwice},
		{ridgeLine + ownLine + "piece a 2 5 5 own", 0, api.ErrClash},
		{ridgeLine + "piece up 1 0 4 own\n" + ownLine, 0, api.ErrClash},
		{many, 0, api.ErrLimit},
		{many + "x", 13, api.ErrForm},
		{many + upLine, 13, api.ErrNone},
	} {
		if r, line, e := ridge.Parse(c.text); e != c.want || line != c.line || !sameRidge(r, api.Ridge{}) {
			t.Errorf("%q: line %d, error %d; %v", c.text, line, e, r)
		}
	}
}

// Which of two pieces with one name is meant is not seen: that there are two is said ahead of all that is wrong with Mirrors.
func TestParseTwice(t *testing.T) {
	for _, text := range []string{
		ridgeLine + upLine + downLine + upLine,
		ridgeLine + upLine + upLine + downLine,
		ridgeLine + ownLine + "piece own 2 5 5 own\n" + upLine + downLine,
	} {
		if r, line, e := ridge.Parse(text); e != api.ErrTwice || line != 0 || !sameRidge(r, api.Ridge{}) {
			t.Errorf("%q: %v %d %d", text, r, line, e)
		}
	}
}

func TestParseLimit(t *testing.T) {
	ahead, behind := ridgeLine+"piece ", " 1 0 0 a"
	name := strings.Repeat("x", api.MaxText-len(ahead)-len(behind))
	for _, c := range []struct {
		text string
		line int
		want api.Errno
	}{
		{ahead + name + behind, 2, api.ErrNone},
		{ahead + name + behind + "\n", 0, api.ErrLimit},
		{strings.Repeat("\n", api.MaxText), 1, api.ErrForm},
		{strings.Repeat("\n", api.MaxText+1), 0, api.ErrLimit},
		{ridgeLine + strings.Repeat("piece a 1 0 0 a\n", 4000), 0, api.ErrLimit},
		{ridgeLine + strings.Repeat("piece a 1 0 0 a\n", 4000) + "piece a 1 0 0 b", 4002, api.ErrNone},
		{ridgeLine + strings.Repeat("piece a 1 0 0 a\n", 5000), 0, api.ErrLimit},
	} {
		if r, line, e := ridge.Parse(c.text); e != c.want || line != c.line || !sameRidge(r, api.Ridge{}) {
			t.Error(len(c.text), line, e)
		}
	}
}

// Each word of a good text is wrong in its own way.
func TestParseChangedWords(t *testing.T) {
	lines := strings.Split(strings.TrimSuffix(exampleText, "\n"), "\n")
	for i, line := range lines {
		for k := range strings.Split(line, " ") {
			for _, word := range []string{"", "-", "X1", "01", "-0", strconv.Itoa(1 << 40)} {
				words := strings.Split(line, " ")
				words[k] = word
				changed := slices.Clone(lines)
				changed[i] = strings.Join(words, " ")
				wantLine, want := i+1, api.ErrForm
				switch {
				case word == "" || k == 0:
				case i > 0 && k == 1:
					// The piece that had its name as its Mirror finds it no more.
					wantLine, want = []int{2, 3, 5, 4}[i-1], api.ErrNone
				case k == 5:
					want = api.ErrNone
				}
				text := strings.Join(changed, "\n")
				if r, line, e := ridge.Parse(text); e != want || line != wantLine || !sameRidge(r, api.Ridge{}) {
					t.Errorf("%q: line %d, error %d", text, line, e)
				}
			}
		}
	}
}
