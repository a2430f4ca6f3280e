package yard

import (
	"slices"
	"strings"

	"thatch/api"
	"thatch/words"
)

const (
	headingWord = "page" // the first word of all headings
	askWord     = "ask"  // the second word of the heading of questions
)

// isHeading reports whether a line is a heading, even if it is one of no page.
func isHeading(line string) bool {
	word, _, _ := strings.Cut(line, " ")
	return word == headingWord
}

// section is a heading, the number of its line, and the lines behind it.
type section struct {
	line    int
	heading string
	lines   []string
}

// sectionsOf returns the sections of a text. The first line is taken for a heading, as it is wrong if it is none.
func sectionsOf(text string) []section {
	var list []section
	for number, line := range words.Lines(text) {
		if number == 1 || isHeading(line) {
			list = append(list, section{line: number, heading: line})
			continue
		}
		last := &list[len(list)-1]
		last.lines = append(last.lines, line)
	}
	return list
}

// title returns the two words of a heading behind its first one, and whether it has just these.
func (s section) title() (kind, name string, ok bool) {
	parts := strings.Split(s.heading, " ")
	if len(parts) != 3 || parts[0] != headingWord || parts[2] == "" {
		return "", "", false
	}
	return parts[1], parts[2], true
}

// split returns the sections of a text ahead of its questions, and the section of these, which has no lines if there are none.
func split(list []section) (pages []section, questions section) {
	last := len(list) - 1
	if last < 0 {
		return nil, section{}
	}
	if word, _, ok := list[last].title(); !ok || word != askWord {
		return list, section{}
	}
	return list[:last], list[last]
}

// page returns the page that a section is, and whether its heading is one of a page.
func (s section) page() (p api.Page, ok bool) {
	word, name, ok := s.title()
	kind := kindOf(word)
	if !ok || kind == api.PgNone {
		return api.Page{}, false
	}
	var text strings.Builder
	for _, line := range s.lines {
		words.WriteLine(&text, line)
	}
	return api.Page{Kind: kind, Name: name, Text: text.String()}, true
}

// bookOf returns the book of some sections, or the number of the first line that is wrong.
func bookOf(list []section) (b api.Book, line int, e api.Errno) {
	var pages []api.Page
	for _, s := range list {
		p, ok := s.page()
		if !ok {
			return api.Book{}, s.line, api.ErrForm
		}
		pages = append(pages, p)
	}
	for i, s := range list {
		if line, e := wrong(pages, i); e != api.OK {
			return api.Book{}, s.line + line, e
		}
	}
	return api.Book{Pages: pages}, 0, api.OK
}

// check returns the first error of a book, or OK: the book may be.
func check(b api.Book) api.Errno {
	for i := range b.Pages {
		if _, e := wrong(b.Pages, i); e != api.OK {
			return e
		}
	}
	return api.OK
}

func write(b api.Book) string {
	var text strings.Builder
	for _, p := range b.Pages {
		words.WriteLine(&text, headingWord+" "+wordOf(p.Kind)+" "+p.Name)
		text.WriteString(p.Text)
	}
	return text.String()
}

// turn returns a book with a page in the place of the one with its name, or behind all.
func turn(b api.Book, p api.Page) api.Book {
	pages := slices.Clone(b.Pages)
	if number := find(pages, p.Name); number >= 0 {
		pages[number] = p
	} else {
		pages = append(pages, p)
	}
	return api.Book{Pages: pages}
}
