package fix_test

import (
	"math/rand"
	"slices"
	"strconv"
	"strings"
	"testing"

	"thatch/api"
	"thatch/fix"
)

// P4.5 (Print, Parse).

func TestPrint(t *testing.T) {
	for _, c := range []struct {
		n    api.Net
		want string
	}{
		{api.Net{}, ""},
		{example(), exampleText},
		{net(things(ground("z9-", 100000, 1000000))), "thing z9- ground 100000 1000000\n"},
		{net(things(ground("hung", 1, 2), hung("ground", 0, 0)), tie(1, 0, 1000000), tie(1, 0, 0)), "thing hung ground 1 2\nthing ground hung 0 0\ntie ground hung 1000000\ntie ground hung 0\n"},
		{net(things(hung("tie", 0, 0), hung("thing", 0, 0)), tie(0, 1, 0)), "thing tie hung 0 0\nthing thing hung 0 0\ntie tie thing 0\n"},
	} {
		if s, e := fix.Print(c.n); e != api.OK || s != c.want {
			t.Errorf("%q %d", s, e)
		}
		for _, text := range []string{c.want, strings.TrimSuffix(c.want, "\n")} {
			if n, line, e := fix.Parse(text); e != api.OK || line != 0 || !sameNet(n, c.n) {
				t.Errorf("%q: %v %d %d", text, n, line, e)
			}
		}
	}
	for _, c := range []struct {
		n    api.Net
		want api.Errno
	}{
		{net(row(25)), api.ErrLimit},
		{changed(func(n *api.Net) { n.Things[0].Name = "" }), api.ErrName},
		{changed(func(n *api.Net) { n.Ties[0].To = 4 }), api.ErrNone},
		{changed(func(n *api.Net) { n.Ties[1].To = 0 }), api.ErrLoop},
	} {
		if s, e := fix.Print(c.n); e != c.want || s != "" {
			t.Errorf("%q %d", s, e)
		}
	}
}

func TestPrintIsParsed(t *testing.T) {
	rng := rand.New(rand.NewSource(59))
	for i := range 1000 {
		n := randomNet(rng, []size{small, large, heavy}[i%3])
		s, e := fix.Print(n)
		if e != api.OK {
			t.Fatal(n, e)
		}
		if b, line, e := fix.Parse(s); e != api.OK || line != 0 || !sameNet(b, n) {
			t.Fatal(n, b, line, e)
		}
	}
}

const (
	thingLine = "thing a hung 1 2\n"
	otherLine = "thing b ground 3 4\n"
	tieLine   = "tie a b 5\n"
)

func TestParse(t *testing.T) {
	want := net(things(hung("a", 1, 2), ground("b", 3, 4)), tie(0, 1, 5), tie(0, 1, 5))
	if n, line, e := fix.Parse(thingLine + otherLine + tieLine + tieLine); e != api.OK || line != 0 || !sameNet(n, want) {
		t.Error(n, line, e)
	}
	many := ""
	for i := range 25 {
		many += "thing t" + strconv.Itoa(i) + " hung 0 0\n"
	}
	for _, c := range []struct {
		text string
		line int
		want api.Errno
	}{
		{"\n", 1, api.ErrForm},
		{" ", 1, api.ErrForm},
		{"thing", 1, api.ErrForm},
		{"tie", 1, api.ErrForm},
		{"thing a hung 1", 1, api.ErrForm},
		{"thing a hung 1 2 3", 1, api.ErrForm},
		{"thing a hung 1 2 ", 1, api.ErrForm},
		{" thing a hung 1 2", 1, api.ErrForm},
		{"thing  a hung 1 2", 1, api.ErrForm},
		{"thing  hung 1 2", 1, api.ErrForm},
		{"thing a\thung 1 2", 1, api.ErrForm},
		{"thing a hung 1 2\r\n", 1, api.ErrForm},
		{"Thing a hung 1 2", 1, api.ErrForm},
		{"things a hung 1 2", 1, api.ErrForm},
		{"a hung 1 2", 1, api.ErrForm},
		{"thing a Hung 1 2", 1, api.ErrForm},
		{"thing a up 1 2", 1, api.ErrForm},
		{"thing a 1 2 hung", 1, api.ErrForm},
		{"thing hung a 1 2", 1, api.ErrForm},
		{"thing a hung 01 2", 1, api.ErrForm},
		{"thing a hung +1 2", 1, api.ErrForm},
		{"thing a hung -0 2", 1, api.ErrForm},
		{"thing a hung 1 x", 1, api.ErrForm},
		{"thing a hung 1 10000000000", 1, api.ErrForm},
		{"thing a hung 1 9999999999", 0, api.ErrArg},
		{"thing a hung 1 1000001", 0, api.ErrArg},
		{"thing a hung -1 2", 0, api.ErrArg},
		{"thing a ground 1 -9999999999", 0, api.ErrArg},
		{"thing A hung 1 2", 0, api.ErrName},
		{"thing a\xff hung 1 2", 0, api.ErrName},
		{"thing a\t hung -1 2", 0, api.ErrName},
		{thingLine + thingLine, 0, api.ErrTwice},
		{thingLine + "\n", 2, api.ErrForm},
		{thingLine + "\n" + otherLine, 2, api.ErrForm},
		{"\n" + thingLine, 1, api.ErrForm},
		{thingLine + otherLine + "tie a b", 3, api.ErrForm},
		{thingLine + otherLine + "tie a b 5 6", 3, api.ErrForm},
		{thingLine + otherLine + "tie a b 5 ", 3, api.ErrForm},
		{thingLine + otherLine + "tie  b 5", 3, api.ErrForm},
		{thingLine + otherLine + "tie a  5", 3, api.ErrForm},
		{thingLine + otherLine + "tie a b x", 3, api.ErrForm},
		{thingLine + otherLine + "tie a b 05", 3, api.ErrForm},
		{thingLine + otherLine + "tie 5 a b", 3, api.ErrForm},
		{thingLine + otherLine + "Tie a b 5", 3, api.ErrForm},
		{thingLine + otherLine + "tie a b 5\r\n", 3, api.ErrForm},
		{thingLine + otherLine + tieLine + otherLine, 4, api.ErrForm},
		{thingLine + otherLine + tieLine + "thing c hung 1 2", 4, api.ErrForm},
		{thingLine + otherLine + tieLine + "\n" + tieLine, 4, api.ErrForm},
		{tieLine, 1, api.ErrNone},
		{tieLine + thingLine, 1, api.ErrNone},
		{thingLine + tieLine, 2, api.ErrNone},
		{thingLine + tieLine + otherLine, 2, api.ErrNone},
		{thingLine + "tie b a 5", 2, api.ErrNone},
		{thingLine + otherLine + "tie a A 5", 3, api.ErrNone},
		{thingLine + otherLine + "tie a c -1", 3, api.ErrNone},
		{thingLine + otherLine + "tie a c x", 3, api.ErrForm},
		{thingLine + otherLine + "tie a c", 3, api.ErrForm},
		{thingLine + otherLine + "tie a c 5\nx", 3, api.ErrNone},
		{thingLine + otherLine + "x\ntie a c 5", 3, api.ErrForm},
		{"thing A hung 1 2\n" + otherLine + "tie A b 5", 0, api.ErrName},
		{thingLine + thingLine + otherLine + tieLine, 0, api.ErrTwice},
		{thingLine + thingLine + otherLine + tieLine + "x", 5, api.ErrForm},
		{thingLine + otherLine + "tie a a 5", 0, api.ErrArg},
		{thingLine + otherLine + "tie a b -1", 0, api.ErrArg},
		{thingLine + otherLine + "tie a b 9999999999", 0, api.ErrArg},
		{thingLine + otherLine + "tie b a 5", 0, api.ErrScope},
		{thingLine + "thing b hung 3 4\n" + tieLine + "tie b a 5", 0, api.ErrLoop},
		{many, 0, api.ErrLimit},
		{many + "x", 26, api.ErrForm},
		{thingLine + otherLine + strings.Repeat(tieLine, 65), 0, api.ErrLimit},
	} {
		if n, line, e := fix.Parse(c.text); e != c.want || line != c.line || !sameNet(n, api.Net{}) {
			t.Errorf("%q: line %d, error %d; %v", c.text, line, e, n)
		}
	}
}

func TestParseLimit(t *testing.T) {
	ahead, behind := "thing ", " hung 1 2"
	name := strings.Repeat("x", api.MaxText-len(ahead)-len(behind))
	for _, c := range []struct {
		text string
		line int
		want api.Errno
	}{
		{ahead + name + behind, 0, api.ErrName},
		{ahead + name + behind + "\n", 0, api.ErrLimit},
		{strings.Repeat("\n", api.MaxText), 1, api.ErrForm},
		{strings.Repeat("\n", api.MaxText+1), 0, api.ErrLimit},
	} {
		if n, line, e := fix.Parse(c.text); e != c.want || line != c.line || !sameNet(n, api.Net{}) {
			t.Error(len(c.text), line, e)
		}
	}
}

// Each word of a good text is wrong in its own way.
func TestParseChangedWords(t *testing.T) {
	lines := strings.Split(strings.TrimSuffix(exampleText, "\n"), "\n")
	for i, line := range lines {
		for k := range strings.Split(line, " ") {
			for _, word := range []string{"", "-", "X1", "01", "-0", strconv.Itoa(1 << 40)} {
				words := strings.Split(line, " ")
				isThing := words[0] == "thing"
				words[k] = word
				changed := slices.Clone(lines)
				changed[i] = strings.Join(words, " ")
				wantLine, want := i+1, api.ErrForm
				switch {
				case word == "" || k == 0:
				case isThing && k == 1:
					// The ties that had its name find it no more.
					wantLine, want = []int{5, 5, 6, 7}[i], api.ErrNone
				case !isThing && k < 3:
					want = api.ErrNone
				}
				text := strings.Join(changed, "\n")
				if n, line, e := fix.Parse(text); e != want || line != wantLine || !sameNet(n, api.Net{}) {
					t.Errorf("%q: line %d, error %d", text, line, e)
				}
			}
		}
	}
}
