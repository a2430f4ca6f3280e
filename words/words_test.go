package words_test

import (
	"slices"
	"strings"
	"testing"

	"thatch/api"
	"thatch/fault"
	"thatch/words"
)

func TestLines(t *testing.T) {
	for _, c := range []struct {
		text string
		want []string
	}{
		{"", nil},
		{"\n", []string{""}},
		{"a", []string{"a"}},
		{"a\n", []string{"a"}},
		{"a\nb", []string{"a", "b"}},
		{"a\n\nb\n\n", []string{"a", "", "b", ""}},
		{"a\r\n b", []string{"a\r", " b"}},
	} {
		var got []string
		for number, line := range words.Lines(c.text) {
			got = append(got, line)
			if number != len(got) {
				t.Errorf("%q: line %d has the number %d", c.text, len(got), number)
			}
		}
		if !slices.Equal(got, c.want) {
			t.Errorf("%q: %q", c.text, got)
		}
	}
}

func TestLinesStop(t *testing.T) {
	count := 0
	for range words.Lines("a\nb\nc") {
		count++
		if count == 2 {
			break
		}
	}
	if count != 2 {
		t.Error(count)
	}
}

func TestIsName(t *testing.T) {
	for _, word := range []string{"a", "z", "az", "a-", "a--b", "a0", "z9-x", strings.Repeat("q", 16)} {
		if !words.IsName(word) {
			t.Errorf("%q is none", word)
		}
	}
	for _, word := range []string{"", "-", "-a", "0", "9a", "A", "aB", "a b", "a_", "a.", "a/", "a:", "a`", "a{", "`", "{", "é", "aé", "a\x00", "a\n", "a\xff", strings.Repeat("q", 17)} {
		if words.IsName(word) {
			t.Errorf("%q is one", word)
		}
	}
}

func TestNumber(t *testing.T) {
	for word, want := range map[string]int{"0": 0, "1": 1, "9": 9, "-1": -1, "10": 10, "907": 907, "9999999999": 9999999999, "-9999999999": -9999999999} {
		if n, ok := words.Number(word); !ok || n != want {
			t.Errorf("%q: %d %t", word, n, ok)
		}
	}
	for _, word := range []string{"", "-", "-0", "00", "01", "-01", "+1", "--1", "1-", "1 ", " 1", "1.0", "1e2", "0x1", "1_0", "a", "1/", "1:", "10000000000", "-10000000000", "00000000001", strings.Repeat("1", 400), "１"} {
		if n, ok := words.Number(word); ok || n != 0 {
			t.Errorf("%q: %d %t", word, n, ok)
		}
	}
}

func TestNumbers(t *testing.T) {
	if l, ok := words.Numbers([]string{"1", "-20", "0"}); !ok || !slices.Equal(l, []int{1, -20, 0}) {
		t.Error(l, ok)
	}
	if l, ok := words.Numbers(nil); !ok || len(l) != 0 {
		t.Error(l, ok)
	}
	for _, list := range [][]string{{""}, {"x", "1"}, {"1", "01"}, {"1", "-0", "1"}} {
		if l, ok := words.Numbers(list); ok || l != nil {
			t.Errorf("%q: %v %t", list, l, ok)
		}
	}
}

func TestNumbersBehind(t *testing.T) {
	for _, c := range []struct {
		line        string
		some, count int
		want        []int
		e           api.Errno
	}{
		{"a 1 -2", 1, 2, []int{1, -2}, api.OK},
		{"a 1 2", 2, 1, []int{2}, api.OK},
		{"a x", 2, 0, nil, api.OK},
		{"7", 0, 1, []int{7}, api.OK},
		{"a 1", 1, 2, nil, api.ErrForm},
		{"a 1 2 3", 1, 2, nil, api.ErrForm},
		{"a", 2, 0, nil, api.ErrForm},
		{"a 1 x", 1, 2, nil, api.ErrForm},
		{"a 1 ", 1, 2, nil, api.ErrForm},
		{"a 01", 1, 1, nil, api.ErrForm},
	} {
		l, e := fault.Answer(func() []int { return words.NumbersBehind(strings.Split(c.line, " "), c.some, c.count) })
		if e != c.e || !slices.Equal(l, c.want) {
			t.Errorf("%q: %v %d", c.line, l, e)
		}
	}
}

func TestWriteLine(t *testing.T) {
	var text strings.Builder
	words.WriteLine(&text, "a b", 1, -20)
	words.WriteLine(&text, "c")
	words.WriteLine(&text, "", 0)
	if text.String() != "a b 1 -20\nc\n 0\n" {
		t.Errorf("%q", text.String())
	}
}

func TestWriteNumbers(t *testing.T) {
	var text strings.Builder
	text.WriteString("a")
	words.WriteNumbers(&text)
	words.WriteNumbers(&text, 1, -20)
	words.WriteNumbers(&text, 0)
	if text.String() != "a 1 -20 0" {
		t.Errorf("%q", text.String())
	}
}

// even is a check that numbers pass if they are even.
func even(n int) api.Errno {
	if n%2 != 0 {
		return api.ErrState
	}
	return api.OK
}

func TestPrint(t *testing.T) {
	long := func(n int) string { return strings.Repeat("x", n) }
	for _, c := range []struct {
		n    int
		want api.Errno
	}{
		{0, api.OK},
		{2, api.OK},
		{api.MaxText, api.OK},
		{3, api.ErrState},
		{api.MaxText + 1, api.ErrState},
		{api.MaxText + 2, api.ErrLimit},
	} {
		text, e := words.Print(c.n, even, long)
		if e != c.want || e == api.OK && text != long(c.n) || e != api.OK && text != "" {
			t.Error(c.n, len(text), e)
		}
	}
}

func TestParse(t *testing.T) {
	read := func(text string) (int, int, api.Errno) {
		if strings.Contains(text, "?") {
			return 44, 7, api.ErrForm
		}
		return len(text), 0, api.OK
	}
	for _, c := range []struct {
		text    string
		n, line int
		want    api.Errno
	}{
		{"", 0, 0, api.OK},
		{"xx", 2, 0, api.OK},
		{"xxx", 0, 0, api.ErrState},
		{"xx?", 0, 7, api.ErrForm},
		{"x?", 0, 7, api.ErrForm},
		{strings.Repeat("x", api.MaxText), api.MaxText, 0, api.OK},
		{strings.Repeat("x", api.MaxText+2), 0, 0, api.ErrLimit},
		{strings.Repeat("?", api.MaxText+1), 0, 0, api.ErrLimit},
	} {
		if n, line, e := words.Parse(c.text, read, even); n != c.n || line != c.line || e != c.want {
			t.Error(len(c.text), n, line, e)
		}
	}
}

func TestRead(t *testing.T) {
	take := func(l *[][]string, line int, parts []string) {
		fault.Unless(!slices.Contains(parts, "?"), api.ErrName)
		fault.Unless(line < 4, api.ErrLoop)
		*l = append(*l, parts)
	}
	for _, c := range []struct {
		text string
		want [][]string
		line int
		e    api.Errno
	}{
		{"", nil, 0, api.OK},
		{"a", [][]string{{"a"}}, 0, api.OK},
		{"a\n", [][]string{{"a"}}, 0, api.OK},
		{"a b\n\nc  d", [][]string{{"a", "b"}, {""}, {"c", "", "d"}}, 0, api.OK},
		{"?\n", nil, 1, api.ErrName},
		{"a\nb ?\n? c", nil, 2, api.ErrName},
		{"a\nb\nc\nd", nil, 4, api.ErrLoop},
		{"a\nb\nc\n? d\ne", nil, 4, api.ErrName},
	} {
		if l, line, e := words.Read(c.text, take); !slices.EqualFunc(l, c.want, slices.Equal[[]string]) || line != c.line || e != c.e {
			t.Errorf("%q: %q %d %d", c.text, l, line, e)
		}
	}
}
