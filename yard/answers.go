package yard

import (
	"slices"
	"strconv"
	"strings"

	"thatch/api"
	"thatch/coat"
	"thatch/fault"
	"thatch/fire"
	"thatch/fix"
	"thatch/mend"
	"thatch/ridge"
	"thatch/run"
	"thatch/wear"
	"thatch/words"
)

// reply is an answer, and its paper, if it has one.
type reply struct {
	text  string
	paper api.Paper
}

func (q question) tellLayers() reply {
	layers, _, e := coat.Least(q.area, q.coat)
	fault.Raise(e)
	thick, _, e := coat.Thinnest(q.area, q.coat)
	fault.Raise(e)
	return reply{text: say("layers", layers) + " " + say("thick", thick)}
}

func (q question) tellRules() reply {
	b := fault.Must(coat.Broken(q.area, q.rule, q.coat))
	if !isKept(b) {
		return reply{text: say("broken "+breachWord(b.Kind), b.Course, b.Bundle)}
	}
	return reply{"kept", api.Paper{Kind: api.PaKept, Area: q.area, Rule: q.rule, Coat: q.coat}}
}

func (q question) tellLeak() reply {
	need, way, e := run.Leak(q.area, q.coat)
	fault.Raise(e)
	needs := fault.Must(run.Needs(q.area, q.coat))
	p := api.Paper{Kind: api.PaDry, Area: q.area, Coat: q.coat, Number: need, Numbers: needs}
	return reply{say("leak", append([]int{need}, way...)...), p}
}

func (q question) tellHouse() reply {
	t := thatch(q.roof, q.rule, q.bundle())
	return reply{text: say("house", t.need, count(t.coats))}
}

func (q question) tellSupply() reply {
	s := supply(q.roof, q.rule, q.bundle(), q.farm, q.crop, q.numbers[4])
	if !s.found {
		return reply{text: "no fields"}
	}
	text := "fields"
	for _, number := range s.fields {
		text += " " + q.farm.Plots[number].Name
	}
	p := api.Paper{Kind: api.PaFields, Farm: q.farm, Need: s.need, Numbers: s.fields, Number: s.cost}
	return reply{say(text+" cost", s.cost), p}
}

func (q question) tellPrice() reply {
	n := q.numbers[4:]
	return reply{text: say("price", fault.Must(Price(q.roof, q.rule, q.bundle(), n[0], n[1], n[2])))}
}

// bundle returns the make that the first four numbers of a question are.
func (q question) bundle() api.Make {
	n := q.numbers
	return api.Make{Width: n[0], Length: n[1], Taper: n[2], Thick: n[3]}
}

func (q question) tellHolds() reply {
	shares, cut, holds, e := fix.Holds(q.net)
	fault.Raise(e)
	if !holds {
		return reply{"breaks", api.Paper{Kind: api.PaBreaks, Net: q.net, Numbers: cut}}
	}
	return reply{"holds", api.Paper{Kind: api.PaHolds, Net: q.net, Numbers: shares}}
}

func (q question) tellRidge() reply {
	ways := fault.Must(ridge.Ways(q.ridge))
	even := fault.Must(ridge.Even(q.ridge))
	return reply{text: say("rows", ways) + " " + say("even", even)}
}

func (q question) tellSkin() reply {
	need := q.numbers[0]
	switch fault.Must(wear.Keeps(q.skin, need)) {
	case api.KnYes:
		return reply{"yes", api.Paper{Kind: api.PaSkin, Skin: q.skin, Number: need}}
	case api.KnNo:
		return reply{text: "no"}
	default:
		return reply{text: "open"}
	}
}

func (q question) tellMend() reply {
	plan, cost, found, e := mend.Cheapest(q.works)
	fault.Raise(e)
	if !found {
		return reply{text: "no plan"}
	}
	text := say("cost", cost)
	for _, row := range plan {
		text += " " + withCommas(row)
	}
	values := fault.Must(mend.Values(q.works))
	return reply{text, api.Paper{Kind: api.PaMend, Works: q.works, Plan: plan, Number: cost, Worths: values}}
}

func (q question) tellFire() reply {
	sites, time := q.sites(), q.numbers[0]
	plan, found, e := fire.Save(q.ground, sites, time)
	fault.Raise(e)
	if !found {
		return reply{text: "not saved"}
	}
	text := "saved"
	for _, number := range plan {
		text += " " + q.ground.Strips[number].Name
	}
	earliest, _, e := fire.Times(q.ground, plan)
	fault.Raise(e)
	p := api.Paper{Kind: api.PaFire, Ground: q.ground, Sites: sites, Plan: [][]int{plan}, Number: time, Numbers: earliest}
	return reply{text, p}
}

// sites returns the numbers of the sites with the names of a question.
func (q question) sites() []int {
	var list []int
	for _, name := range q.names {
		number := slices.Index(q.ground.Sites, name)
		fault.Unless(number >= 0, api.ErrNone)
		list = append(list, number)
	}
	return list
}

func (q question) tellCrew() reply {
	s := fastest(q.crew)
	p := api.Paper{Kind: api.PaCrew, Crew: q.crew, Numbers: s.starts, Number: s.days()}
	return reply{say("days", append([]int{s.days()}, s.starts...)...), p}
}

// say returns some words with numbers behind them.
func say(text string, numbers ...int) string {
	var line strings.Builder
	line.WriteString(text)
	words.WriteNumbers(&line, numbers...)
	return line.String()
}

// withCommas returns numbers with a comma between.
func withCommas(row []int) string {
	var parts []string
	for _, n := range row {
		parts = append(parts, strconv.Itoa(n))
	}
	return strings.Join(parts, ",")
}

// breachWord returns the word of a rule that is broken.
func breachWord(kind api.BreachKind) string {
	return []string{"eave", "gauge", "lean", "side", "break", "layers"}[kind-api.BrEave]
}
