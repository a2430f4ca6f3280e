package yard

import (
	"slices"
	"strings"

	"thatch/api"
	"thatch/coat"
	"thatch/fire"
	"thatch/fix"
	"thatch/mend"
	"thatch/ridge"
	"thatch/roof"
	"thatch/straw"
	"thatch/wear"
	"thatch/words"
)

// kindWords returns the words of the kinds of pages, from the roof on.
func kindWords() []string {
	return []string{"roof", "area", "rule", "coat", "farm", "net", "ridge", "skin", "works", "ground", "crew"}
}

// kindOf returns the kind of pages that has a word, or none.
func kindOf(word string) api.PageKind {
	number := slices.Index(kindWords(), word)
	if number < 0 {
		return api.PgNone
	}
	return api.PgRoof + api.PageKind(number)
}

func wordOf(kind api.PageKind) string { return kindWords()[kind-api.PgRoof] }

// subject is what pages of a kind are about.
type subject interface {
	// read reads the text of a page, or returns its error, and the line that is wrong.
	read(text string) (line int, e api.Errno)
}

// about is the subject of pages whose texts have a value, and the value of the last one that was read.
type about[T any] struct {
	parse func(text string) (T, int, api.Errno)
	value T
}

func (a *about[T]) read(text string) (line int, e api.Errno) {
	a.value, line, e = a.parse(text)
	return line, e
}

// subjectOf returns the subject of pages of a kind, nil if there is no such kind.
func subjectOf(kind api.PageKind) subject {
	switch kind {
	case api.PgRoof:
		return &about[api.Roof]{parse: roof.Parse}
	case api.PgArea:
		return &about[api.Area]{parse: parseArea}
	case api.PgRule:
		return &about[api.Custom]{parse: parseRule}
	case api.PgCoat:
		return &about[api.Coat]{parse: coat.Parse}
	case api.PgFarm:
		return &about[api.Farm]{parse: straw.Parse}
	case api.PgNet:
		return &about[api.Net]{parse: fix.Parse}
	case api.PgRidge:
		return &about[api.Ridge]{parse: ridge.Parse}
	case api.PgSkin:
		return &about[api.Skin]{parse: wear.Parse}
	case api.PgWorks:
		return &about[api.Works]{parse: mend.Parse}
	case api.PgGround:
		return &about[api.Ground]{parse: fire.Parse}
	case api.PgCrew:
		return &about[api.Crew]{parse: parseCrew}
	default:
		return nil
	}
}

// wrong returns the first error of a page of a book, and which line of its Text is wrong, 0 if the error is none of a line.
func wrong(pages []api.Page, number int) (line int, e api.Errno) {
	p := pages[number]
	s := subjectOf(p.Kind)
	switch {
	case s == nil:
		return 0, api.ErrArg
	case number >= api.MaxPages:
		return 0, api.ErrLimit
	case !words.IsName(p.Name):
		return 0, api.ErrName
	case find(pages[:number], p.Name) >= 0:
		return 0, api.ErrTwice
	case !isText(p.Text):
		return 0, api.ErrForm
	}
	return s.read(p.Text)
}

// find returns the number of the page with a name, or a number below 0.
func find(pages []api.Page, name string) int {
	return slices.IndexFunc(pages, func(p api.Page) bool { return p.Name == name })
}

// isText reports whether lines can stand behind a heading, and end where the next one begins.
func isText(text string) bool {
	for _, line := range words.Lines(text) {
		if isHeading(line) {
			return false
		}
	}
	return text == "" || strings.HasSuffix(text, "\n")
}
