package yard_test

import (
	"slices"
	"strings"
	"testing"

	"thatch/api"
	"thatch/yard"
)

// P10.4 (Run).

func TestRun(t *testing.T) {
	for _, c := range []struct {
		text    string
		answers []string
		kinds   []api.PaperKind
	}{
		{"", nil, nil},
		{fullText, nil, nil},
		{strings.TrimSuffix(fullText, "\n"), nil, nil},
		{"page ask q", nil, nil},
		{"page ask q\n", nil, nil},
		{"page ask q\ncrew k\n", []string{"error 7"}, nil},
		{"page ask Q!\ncrew k\n", []string{"error 7"}, nil},
		{"page ask page\ncrew k\n", []string{"error 7"}, nil},
		{fullText + "page ask q\n", nil, nil},
		{fullText + "page ask q\nleak a c", []string{"leak 100 0"}, []api.PaperKind{api.PaDry}},
		{fullText + "page ask q\nleak a c\n", []string{"leak 100 0"}, []api.PaperKind{api.PaDry}},
		{fullText + "page ask k\ncrew k\n", []string{"days 5 0 2 2"}, []api.PaperKind{api.PaCrew}},
		{
			fullText + "page ask q\ncrew k\n\nlayers c a\nlayers a c\n leak a c\nskin s 121\nhouse r m 60 40 30 100\nmend w\nleak a c\nskin s 120\npages\n",
			[]string{"days 5 0 2 2", "error 4", "error 7", "layers 1 thick 100", "error 4", "open", "error 1", "cost 48 -1 0 0", "leak 100 0", "yes", "error 4"},
			[]api.PaperKind{api.PaCrew, api.PaMend, api.PaDry, api.PaSkin},
		},
		{fullText + "page ask q\n" + strings.Repeat("layers a c\n", 64), slices.Repeat([]string{"layers 1 thick 100"}, 64), nil},
		{fullText + "page ask q\n" + strings.Repeat("\n", 64), slices.Repeat([]string{"error 4"}, 64), nil},
		{fullText + "page ask q\ncrew k\r\n", []string{"error 7"}, nil},
	} {
		answers, papers, line, e := yard.Run(c.text)
		var kinds []api.PaperKind
		for _, p := range papers {
			kinds = append(kinds, p.Kind)
		}
		if e != api.OK || line != 0 || !slices.Equal(answers, c.answers) || !slices.Equal(kinds, c.kinds) {
			t.Errorf("%q: %q %v %d %d", c.text, answers, kinds, line, e)
		}
	}
}

// Run answers as Ask does.
func TestRunAsks(t *testing.T) {
	var want []string
	var wantPapers []api.Paper
	for _, question := range questions() {
		answer, p := askBook(t, full(), question)
		want = append(want, answer)
		if p.Kind != api.PaNone {
			wantPapers = append(wantPapers, p)
		}
	}
	answers, papers, line, e := yard.Run(fullText + "page ask q\n" + strings.Join(questions(), "\n"))
	if e != api.OK || line != 0 || !slices.Equal(answers, want) || !same(papers, wantPapers) || len(papers) < 8 {
		t.Error(answers, line, e)
	}
}

func TestRunErrors(t *testing.T) {
	const coat = "page coat c\ncourse 0\n"
	many := strings.Repeat("x\n", 65)
	pages := ""
	for _, p := range bare(33).Pages {
		pages += "page coat " + p.Name + "\n"
	}
	for _, c := range []wrongText{
		{"x", 1, api.ErrForm},
		{"\npage ask q\n", 1, api.ErrForm},
		{"x\npage ask q\n", 1, api.ErrForm},
		{"crew k\n", 1, api.ErrForm},
		{"page ask\n", 1, api.ErrForm},
		{"page ask \n", 1, api.ErrForm},
		{"page ask  q\n", 1, api.ErrForm},
		{"page  ask q\n", 1, api.ErrForm},
		{"page ask q \n", 1, api.ErrForm},
		{"page ask q r\n", 1, api.ErrForm},
		{"page Ask q\n", 1, api.ErrForm},
		{"page asks q\n", 1, api.ErrForm},
		{"page q ask\n", 1, api.ErrForm},
		{coat + "page ask\nleak a c\n", 3, api.ErrForm},
		{coat + "page ask q\npage\n", 3, api.ErrForm},
		{coat + "page ask q\ncrew k\npage coat d\n", 3, api.ErrForm},
		{coat + "page ask q\ncrew k\npage ask q\ncrew k\n", 3, api.ErrForm},
		{coat + "page ask q\ncrew k\npage hut h\n", 3, api.ErrForm},
		{coat + "page hut h\npage ask q\ncrew k\n", 3, api.ErrForm},
		{coat + "x\npage ask q\ncrew k\n", 3, api.ErrForm},
		{coat + "course 0\npage ask q\ncrew k\n", 1, api.ErrState},
		{coat + "page net c\npage ask q\ncrew k\n", 3, api.ErrTwice},
		{coat + "page net C\npage ask q\ncrew k\n", 3, api.ErrName},
		{pages + "page ask q\n", 33, api.ErrLimit},
		{"page ask q\n" + many, 1, api.ErrLimit},
		{coat + "page ask q\n" + many, 3, api.ErrLimit},
		{coat + "x\npage ask q\n" + many, 3, api.ErrForm},
		{coat + "page net c\npage ask q\n" + many, 3, api.ErrTwice},
		{"page ask q\n" + strings.Repeat("\n", 65525), 1, api.ErrLimit},
		{"page ask q\n" + strings.Repeat("\n", 65526), 0, api.ErrLimit},
		{strings.Repeat("x", 65537), 0, api.ErrLimit},
	} {
		answers, papers, line, e := yard.Run(c.text)
		if line != c.line || e != c.want || len(answers) != 0 || len(papers) != 0 {
			t.Errorf("%.60q: %q %v %d %d", c.text, answers, papers, line, e)
		}
	}
	if _, _, line, e := yard.Run("page ask ask\n" + strings.Repeat("\n", 64)); line != 0 || e != api.OK {
		t.Error(line, e)
	}
}
