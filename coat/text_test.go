package coat_test

import (
	"math"
	"math/rand"
	"slices"
	"strconv"
	"strings"
	"testing"

	"thatch/api"
	"thatch/coat"
)

// P3.5 (texts) and P3.8 (there and back).

func TestPrint(t *testing.T) {
	for _, x := range []struct {
		c    api.Coat
		want string
	}{
		{api.Coat{}, ""},
		{courses(course(0)), "course 0\n"},
		{courses(course(-400), course(400)), "course -400\ncourse 400\n"},
		{example(), exampleText},
		{courses(course(7, bundle(-400, 100, 99, -50, 49, 1000)), course(8)), "course 7\nbundle -400 100 99 -50 49 1000\ncourse 8\n"},
	} {
		if s, e := coat.Print(x.c); e != api.OK || s != x.want {
			t.Errorf("%q %d", s, e)
		}
		for _, text := range []string{x.want, strings.TrimSuffix(x.want, "\n")} {
			if c, n, e := coat.Parse(text); e != api.OK || n != 0 || !sameCoat(c, x.c) {
				t.Errorf("%q: %v %d %d", text, c, n, e)
			}
		}
	}
	if s, e := coat.Print(courses(course(0), course(0))); e != api.ErrState || s != "" {
		t.Error(s, e)
	}
}

func TestPrintIsParsed(t *testing.T) {
	rng := rand.New(rand.NewSource(38))
	for range 1000 {
		c := randomCoat(rng, between(rng, 2, 400), 24)
		s, e := coat.Print(c)
		if e != api.OK {
			t.Fatal(c, e)
		}
		if b, n, e := coat.Parse(s); e != api.OK || n != 0 || !sameCoat(b, c) || !coat.Same(b, c) {
			t.Fatal(c, b, n, e)
		}
	}
}

const bundleLine = "bundle 1 9 8 3 2 5\n"

func TestParse(t *testing.T) {
	want := courses(course(-4), course(6, bundle(1, 9, 8, 3, 2, 5), bundle(1, 9, 8, 3, 2, 5)))
	if c, n, e := coat.Parse("course -4\ncourse 6\n" + bundleLine + bundleLine); e != api.OK || n != 0 || !sameCoat(c, want) {
		t.Error(c, n, e)
	}
	for _, x := range []struct {
		text string
		line int
		want api.Errno
	}{
		{"\n", 1, api.ErrForm},
		{" ", 1, api.ErrForm},
		{"\ncourse 0", 1, api.ErrForm},
		{"course", 1, api.ErrForm},
		{"course ", 1, api.ErrForm},
		{"course 0 ", 1, api.ErrForm},
		{" course 0", 1, api.ErrForm},
		{"course  0", 1, api.ErrForm},
		{"course 0 0", 1, api.ErrForm},
		{"Course 0", 1, api.ErrForm},
		{"courses 0", 1, api.ErrForm},
		{"0", 1, api.ErrForm},
		{"course x", 1, api.ErrForm},
		{"course 00", 1, api.ErrForm},
		{"course +1", 1, api.ErrForm},
		{"course -0", 1, api.ErrForm},
		{"course 0\r\n", 1, api.ErrForm},
		{"course\t0", 1, api.ErrForm},
		{"course 0\x00", 1, api.ErrForm},
		{"course 1 9 8 3 2 5", 1, api.ErrForm},
		{"course 401", 0, api.ErrArg},
		{"course -9999999999", 0, api.ErrArg},
		{"course 10000000000", 1, api.ErrForm},
		{bundleLine, 1, api.ErrForm},
		{bundleLine + "course 0\n", 1, api.ErrForm},
		{"course 0\n\n", 2, api.ErrForm},
		{"course 0\n\n" + bundleLine, 2, api.ErrForm},
		{"course 0\n" + bundleLine + "\n", 3, api.ErrForm},
		{"course 0\n" + bundleLine + "bundle", 3, api.ErrForm},
		{"course 0\n" + bundleLine + "course", 3, api.ErrForm},
		{"course 0\nbundle 1\n", 2, api.ErrForm},
		{"course 0\nbundle 1 9 8 3 2", 2, api.ErrForm},
		{"course 0\nbundle 1 9 8 3 2 5 0", 2, api.ErrForm},
		{"course 0\nbundle 1 9 8 3 2 5 ", 2, api.ErrForm},
		{"course 0\n bundle 1 9 8 3 2 5", 2, api.ErrForm},
		{"course 0\nbundle 1 9  8 3 2 5", 2, api.ErrForm},
		{"course 0\nbundle 1 9 8 3 2 x", 2, api.ErrForm},
		{"course 0\nbundle 1 9 08 3 2 5", 2, api.ErrForm},
		{"course 0\n1 9 8 3 2 5", 2, api.ErrForm},
		{"course 0\nbundle 1 9 8 3 5 5", 0, api.ErrArg},
		{"course 0\nbundle 1 9 8 3 9999999999 5", 0, api.ErrArg},
		{"course 0\ncourse 0\n", 0, api.ErrState},
		{"course 0\ncourse -1\n", 0, api.ErrState},
		{"course 0\ncourse 0\nx", 3, api.ErrForm},
		{"course 401\nbundle\n\n", 2, api.ErrForm},
		{strings.Repeat("course 0\n", 25), 0, api.ErrLimit},
		{strings.Repeat("course 0\n", 25) + "x", 26, api.ErrForm},
		{"course 0\n" + strings.Repeat(bundleLine, 97), 0, api.ErrLimit},
	} {
		if c, n, e := coat.Parse(x.text); e != x.want || n != x.line || c.Courses != nil {
			t.Errorf("%q: line %d, error %d; %v", x.text, n, e, c)
		}
	}
}

func TestParseLimit(t *testing.T) {
	line := "course 0\n"
	full := strings.Repeat(line, api.MaxText/len(line))
	rest := strings.Repeat("x", api.MaxText-len(full))
	for _, x := range []struct {
		text string
		line int
		want api.Errno
	}{
		{full, 0, api.ErrLimit},
		{full + rest, api.MaxText/len(line) + 1, api.ErrForm},
		{full + rest + "x", 0, api.ErrLimit},
		{strings.Repeat("\n", api.MaxText), 1, api.ErrForm},
		{strings.Repeat("\n", api.MaxText+1), 0, api.ErrLimit},
		{"course 0" + strings.Repeat(" 0", (api.MaxText-8)/2), 1, api.ErrForm},
	} {
		if c, n, e := coat.Parse(x.text); e != x.want || n != x.line || c.Courses != nil {
			t.Error(len(x.text), n, e)
		}
	}
}

// Each word of a good line is wrong in its own way.
func TestParseChangedWords(t *testing.T) {
	lines := strings.Split(strings.TrimSuffix(exampleText, "\n"), "\n")
	for i, line := range lines {
		for k := range strings.Split(line, " ") {
			for _, word := range []string{"", "-", "X1", "01", "-0", strconv.Itoa(1 << 40)} {
				words := strings.Split(line, " ")
				words[k] = word
				changed := slices.Clone(lines)
				changed[i] = strings.Join(words, " ")
				text := strings.Join(changed, "\n")
				if c, n, e := coat.Parse(text); e != api.ErrForm || n != i+1 || c.Courses != nil {
					t.Errorf("%q: line %d, error %d", text, n, e)
				}
			}
		}
	}
}

func TestSame(t *testing.T) {
	isSame := func(a, b api.Coat, want bool) {
		t.Helper()
		if coat.Same(a, b) != want || coat.Same(b, a) != want {
			t.Error(a, b, !want)
		}
	}
	isSame(example(), example(), true)
	isSame(api.Coat{}, api.Coat{Courses: []api.Course{}}, true)
	isSame(courses(course(0)), courses(api.Course{Bundles: []api.Bundle{}}), true)
	isSame(api.Coat{}, courses(course(0)), false)
	isSame(courses(course(0)), courses(course(1)), false)
	isSame(courses(course(0)), courses(course(0), course(1)), false)
	isSame(courses(course(0), course(1)), courses(course(1), course(0)), false)
	// coats that may not be are accepted
	bad := bundle(math.MinInt, -1, 0, math.MaxInt, 77, -5)
	isSame(courses(course(5, bad), course(5)), courses(course(5, bad), course(5)), true)
	isSame(courses(course(5, bad)), courses(course(5, bad, bad)), false)
	isSame(api.Coat{Courses: make([]api.Course, 1000)}, api.Coat{Courses: make([]api.Course, 1000)}, true)
	for i := range 6 {
		b, d := bad, bad
		*[]*int{&d.U, &d.Width, &d.Length, &d.Lean, &d.Taper, &d.Thick}[i]++
		isSame(courses(course(5, b, b)), courses(course(5, b, d)), false)
		isSame(courses(course(5, b, d)), courses(course(5, d, b)), false)
	}
	isSame(courses(course(0, bad), course(1)), courses(course(0), course(1, bad)), false)
}
