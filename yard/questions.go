package yard

import (
	"slices"
	"strings"

	"thatch/api"
	"thatch/fault"
	"thatch/words"
)

// Words of forms that stand for something else than a page of a kind.
const (
	anyNumber = "N"
	anyCrop   = "X"
	anyNames  = "NAME.."
)

// form is the words of a question behind its first one, and what answers it.
type form struct {
	words  string
	answer func(question) reply
}

// forms returns the forms of all questions, by their first words.
func forms() map[string]form {
	return map[string]form{
		"layers": {"area coat", question.tellLayers},
		"rules":  {"area rule coat", question.tellRules},
		"leak":   {"area coat", question.tellLeak},
		"house":  {"roof rule N N N N", question.tellHouse},
		"supply": {"roof rule N N N N farm X N", question.tellSupply},
		"price":  {"roof rule N N N N N N N", question.tellPrice},
		"holds":  {"net", question.tellHolds},
		"ridge":  {"ridge", question.tellRidge},
		"skin":   {"skin N", question.tellSkin},
		"mend":   {"works", question.tellMend},
		"fire":   {"ground N NAME..", question.tellFire},
		"crew":   {"crew", question.tellCrew},
	}
}

// cropWords returns the words of the crops, from reed on.
func cropWords() []string { return []string{"reed", "straw", "heather"} }

// reference is the kind and the name of a page that a question names.
type reference struct {
	kind api.PageKind
	name string
}

// question is what the words of a question say, and what the pages are about that it names.
type question struct {
	pages   []reference
	numbers []int
	crop    api.Crop
	names   []string
	things
}

// things is what pages of all kinds are about.
type things struct {
	roof   api.Roof
	area   api.Area
	rule   api.Custom
	coat   api.Coat
	farm   api.Farm
	net    api.Net
	ridge  api.Ridge
	skin   api.Skin
	works  api.Works
	ground api.Ground
	crew   api.Crew
}

// ask answers a question about a book that may be.
func ask(b api.Book, text string) reply {
	parts := strings.Split(text, " ")
	f, ok := forms()[parts[0]]
	fault.Unless(ok && !slices.Contains(parts, ""), api.ErrForm)
	q := f.read(parts[1:])
	for _, p := range q.pages {
		q.add(open(b, p))
	}
	return f.answer(q)
}

// askAll answers questions about a book that may be, and returns the papers of those that have one.
func askAll(b api.Book, texts []string) (answers []string, papers []api.Paper) {
	for _, text := range texts {
		r, e := fault.Answer(func() reply { return ask(b, text) })
		if e != api.OK {
			r.text = say("error", int(e))
		}
		answers = append(answers, r.text)
		if r.paper.Kind != api.PaNone {
			papers = append(papers, r.paper)
		}
	}
	return answers, papers
}

// read returns the question of the words behind the first one.
func (f form) read(given []string) question {
	var q question
	for _, word := range strings.Split(f.words, " ") {
		if word == anyNames {
			q.names, given = given, nil
			continue
		}
		fault.Unless(len(given) > 0, api.ErrForm)
		q.take(word, given[0])
		given = given[1:]
	}
	fault.Unless(len(given) == 0, api.ErrForm)
	return q
}

// take takes a word for what a word of a form wants.
func (q *question) take(wanted, word string) {
	switch wanted {
	case anyNumber:
		n, ok := words.Number(word)
		fault.Unless(ok, api.ErrForm)
		q.numbers = append(q.numbers, n)
	case anyCrop:
		number := slices.Index(cropWords(), word)
		fault.Unless(number >= 0, api.ErrForm)
		q.crop = api.CrReed + api.Crop(number)
	default:
		q.pages = append(q.pages, reference{kindOf(wanted), word})
	}
}

// open returns what a page of a book is about. It is read anew each time, so that no two papers share it.
func open(b api.Book, r reference) subject {
	number := find(b.Pages, r.name)
	fault.Unless(number >= 0 && b.Pages[number].Kind == r.kind, api.ErrNone)
	s := subjectOf(r.kind)
	_, e := s.read(b.Pages[number].Text)
	fault.Raise(e)
	return s
}

func (t *things) add(s subject) {
	switch x := s.(type) {
	case *about[api.Roof]:
		t.roof = x.value
	case *about[api.Area]:
		t.area = x.value
	case *about[api.Custom]:
		t.rule = x.value
	case *about[api.Coat]:
		t.coat = x.value
	case *about[api.Farm]:
		t.farm = x.value
	case *about[api.Net]:
		t.net = x.value
	case *about[api.Ridge]:
		t.ridge = x.value
	case *about[api.Skin]:
		t.skin = x.value
	case *about[api.Works]:
		t.works = x.value
	case *about[api.Ground]:
		t.ground = x.value
	case *about[api.Crew]:
		t.crew = x.value
	}
}
