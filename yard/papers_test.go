package yard_test

import (
	"math"
	"math/rand"
	"slices"
	"strconv"
	"strings"
	"testing"

	"thatch/api"
	"thatch/yard"
)

// P10.5 (Verify), P10.8 (good), P0.6.

// spoiled is what is changed in a paper, and what Verify says then.
type spoiled struct {
	name string
	do   func(p *api.Paper)
	want api.Errno
}

// verifyAll changes the paper of a question again and again.
func verifyAll(t *testing.T, b api.Book, question string, list []spoiled) {
	t.Helper()
	_, p := askBook(t, b, question)
	if e := yard.Verify(p); e != api.OK {
		t.Error(question, e)
	}
	for _, c := range list {
		changed := copied(p)
		c.do(&changed)
		if e := yard.Verify(changed); e != c.want {
			t.Errorf("%s: %s: %d", question, c.name, e)
		}
	}
}

func TestVerifyKinds(t *testing.T) {
	for kind := range 256 {
		want := api.ErrArg
		if 1 <= kind && kind <= 9 {
			want = api.ErrState
		}
		// no custom may be that asks for no layers, no area without corners, no works without slopes; the others tell something that is wrong
		p := api.Paper{Kind: api.PaperKind(kind), Number: 1, Numbers: list(1, 1), Plan: [][]int{{1}, {1}}, Skin: api.Skin{Steep: -1}}
		if e := yard.Verify(p); e != want {
			t.Error(kind, e)
		}
	}
	for _, question := range questions() {
		if _, p := askBook(t, full(), question); p.Kind != api.PaNone {
			verifyAll(t, full(), question, []spoiled{
				{"no kind", func(p *api.Paper) { p.Kind = api.PaNone }, api.ErrArg},
				{"a kind above all", func(p *api.Paper) { p.Kind = api.PaCrew + 1 }, api.ErrArg},
			})
		}
	}
}

func TestVerifyCoats(t *testing.T) {
	verifyAll(t, full(), "rules a m c", []spoiled{
		{"a rule that is broken", func(p *api.Paper) { p.Rule.Break = 1 }, api.ErrState},
		{"a rule less", func(p *api.Paper) { p.Rule.Side = 0 }, api.OK},
		{"another coat", func(p *api.Paper) { p.Coat = coatOf() }, api.ErrState},
		{"another coat that keeps them", func(p *api.Paper) { p.Coat.Courses = p.Coat.Courses[:1] }, api.OK},
		{"another area", func(p *api.Paper) { p.Area.Outline[1].U++; p.Area.Outline[2].U++ }, api.ErrState},
		{"an area that may not be", func(p *api.Paper) { p.Area.Outline[1] = p.Area.Outline[0] }, api.ErrState},
		{"a custom that may not be", func(p *api.Paper) { p.Rule.Layers = 0 }, api.ErrState},
		{"a coat that may not be", func(p *api.Paper) { p.Coat.Courses[1].V = 0 }, api.ErrState},
	})
	verifyAll(t, full(), "leak a c", []spoiled{
		{"more wear", func(p *api.Paper) { p.Number = 101 }, api.ErrState},
		{"less wear", func(p *api.Paper) { p.Number = 99 }, api.OK},
		{"a bundle that is dry", func(p *api.Paper) { p.Numbers[0] = 1 }, api.ErrState},
		{"a bundle that is never wet", func(p *api.Paper) { p.Numbers[1] = -1 }, api.ErrState},
		{"needs that are none", func(p *api.Paper) { p.Numbers[0] = -2 }, api.ErrState},
		{"no needs", func(p *api.Paper) { p.Numbers = nil }, api.ErrState},
		{"a need more", func(p *api.Paper) { p.Numbers = append(p.Numbers, 0) }, api.ErrState},
		{"a thinner bundle", func(p *api.Paper) { p.Coat.Courses[0].Bundles[0].Thick = 99 }, api.ErrState},
		{"a thicker bundle", func(p *api.Paper) { p.Coat.Courses[0].Bundles[0].Thick = 101 }, api.OK},
		{"a larger area", func(p *api.Paper) { p.Area.Outline[1].U++; p.Area.Outline[2].U++ }, api.ErrState},
		{"an area that may not be", func(p *api.Paper) { p.Area.Outline = nil }, api.ErrState},
		{"a coat that may not be", func(p *api.Paper) { p.Coat.Courses[1].V = -1 }, api.ErrState},
	})
	verifyAll(t, full(), "supply r m 60 40 0 100 f reed 10", []spoiled{
		{"another field", func(p *api.Paper) { p.Numbers[0] = 1 }, api.ErrState},
		{"a field more", func(p *api.Paper) { p.Numbers = list(0, 1) }, api.ErrState},
		{"a field more, with what it costs", func(p *api.Paper) { p.Numbers, p.Number = list(0, 1), 70 }, api.ErrState},
		{"no field", func(p *api.Paper) { p.Numbers = nil }, api.ErrState},
		{"a greater cost", func(p *api.Paper) { p.Number++ }, api.ErrState},
		{"a lesser cost", func(p *api.Paper) { p.Number-- }, api.ErrState},
		{"a lesser need", func(p *api.Paper) { p.Need.Reed = 1 }, api.OK},
		{"a greater need", func(p *api.Paper) { p.Need.Reed = 41 }, api.ErrState},
		{"a need for which there is nothing", func(p *api.Paper) { p.Need.Reed, p.Numbers, p.Number = 41, nil, 0 }, api.ErrState},
		{"a need of all", func(p *api.Paper) { p.Need.Straw = 10 }, api.ErrState},
		{"a need of all, and the fields of all", func(p *api.Paper) { p.Need.Straw, p.Numbers, p.Number = 10, list(0, 1), 70 }, api.OK},
		{"no need", func(p *api.Paper) { p.Need, p.Numbers, p.Number = api.Need{}, nil, 0 }, api.OK},
		{"a need that is none", func(p *api.Paper) { p.Need, p.Numbers, p.Number = api.Need{Reed: -1}, nil, 0 }, api.ErrState},
		{"a dearer field", func(p *api.Paper) { p.Farm.Plots[0].Cost++ }, api.ErrState},
		{"a farm that may not be", func(p *api.Paper) { p.Farm.Dry = -1 }, api.ErrState},
	})
}

func TestVerifyNets(t *testing.T) {
	weak := with(t, page(api.PgNet, "n", strings.Replace(netText, "left ground 0 8", "left ground 0 2", 1)))
	verifyAll(t, full(), "holds n", []spoiled{
		{"as it is told of another kind", func(p *api.Paper) { p.Kind = api.PaBreaks }, api.ErrState},
		{"other shares", func(p *api.Paper) { p.Numbers = list(10, 3, 9) }, api.OK},
		{"shares that are too great", func(p *api.Paper) { p.Numbers = list(10, 9, 3) }, api.ErrState},
		{"no shares", func(p *api.Paper) { p.Numbers = nil }, api.ErrState},
		{"a heavier thing", func(p *api.Paper) { p.Net.Things[0].Weight++ }, api.ErrState},
		{"a net that may not be", func(p *api.Paper) { p.Net.Things[0].Name = "" }, api.ErrState},
	})
	verifyAll(t, weak, "holds n", []spoiled{
		{"as it is told of another kind", func(p *api.Paper) { p.Kind = api.PaHolds }, api.ErrState},
		{"another cut", func(p *api.Paper) { p.Numbers = list(2, 2, 1, 1) }, api.OK},
		{"a cut that breaks nothing", func(p *api.Paper) { p.Numbers = list(0, 0, 0, 0) }, api.ErrState},
		{"no cut", func(p *api.Paper) { p.Numbers = nil }, api.ErrState},
		{"what bears more", func(p *api.Paper) { p.Net.Things[2].Bears = 8 }, api.ErrState},
		{"a net that may not be", func(p *api.Paper) { p.Net.Things[0].Name = "" }, api.ErrState},
	})
	verifyAll(t, full(), "skin s 120", []spoiled{
		{"less", func(p *api.Paper) { p.Number = 0 }, api.OK},
		{"what is not known", func(p *api.Paper) { p.Number = 121 }, api.ErrState},
		{"what is not so", func(p *api.Paper) { p.Number = 201 }, api.ErrState},
		{"what may not be asked", func(p *api.Paper) { p.Number = -1 }, api.ErrState},
		{"a steeper skin", func(p *api.Paper) { p.Skin.Steep = 3 }, api.ErrState},
		{"a skin that may not be", func(p *api.Paper) { p.Skin.Steep = -1 }, api.ErrState},
	})
}

func TestVerifyMends(t *testing.T) {
	row := func(n int) []int { return list(n) }
	verifyAll(t, full(), "mend w", []spoiled{
		{"a lesser cost", func(p *api.Paper) { p.Number = 47 }, api.ErrState},
		{"a greater cost", func(p *api.Paper) { p.Number = 49 }, api.ErrState},
		{"a plan that costs the same", func(p *api.Paper) { p.Plan = [][]int{row(0), row(-1), row(0)} }, api.OK},
		{"a plan that costs more", func(p *api.Paper) { p.Plan = [][]int{row(0), row(0), row(0)} }, api.ErrState},
		{"a plan that costs more, with its cost", func(p *api.Paper) { p.Plan, p.Number = [][]int{row(0), row(0), row(0)}, 72 }, api.ErrState},
		{"a plan that keeps not all", func(p *api.Paper) { p.Plan = [][]int{row(-1), row(-1), row(0)} }, api.ErrState},
		{"no plan", func(p *api.Paper) { p.Plan = nil }, api.ErrState},
		{"a year more", func(p *api.Paper) { p.Plan = append(p.Plan, row(-1)) }, api.ErrState},
		{"lesser values", func(p *api.Paper) { p.Worths[0].Cost-- }, api.ErrState},
		{"greater values", func(p *api.Paper) { p.Worths[1].Cost++ }, api.ErrState},
		{"no values", func(p *api.Paper) { p.Worths = nil }, api.ErrState},
		{"a value less", func(p *api.Paper) { p.Worths = p.Worths[1:] }, api.ErrState},
		{"too many values", func(p *api.Paper) { p.Worths = make([]api.Worth, 2001) }, api.ErrState},
		{"a cheaper craft", func(p *api.Paper) { p.Works.Crafts[0].Price-- }, api.ErrState},
		{"works that may not be", func(p *api.Paper) { p.Works.Slopes = nil }, api.ErrState},
	})
}

// A plan that costs as much as the cheapest one, but keeps not all.
func TestVerifyPlanThatKeepsNotAll(t *testing.T) {
	b := with(t, page(api.PgWorks, "w", "works 1 0 1\nslope 40 30 60 1 20\nadd 5 1\nadd 10 1\n"))
	verifyAll(t, b, "mend w", []spoiled{
		{"as it is", func(p *api.Paper) {}, api.OK},
		{"the other craft", func(p *api.Paper) { p.Plan[0][0] = 0 }, api.ErrState},
		{"no craft", func(p *api.Paper) { p.Plan[0][0] = -1 }, api.ErrState},
	})
}

func TestVerifyFires(t *testing.T) {
	rows := func(list ...[]int) [][]int { return list }
	verifyAll(t, full(), "fire g 39 c", []spoiled{
		{"up to an earlier time", func(p *api.Paper) { p.Number = 0 }, api.OK},
		{"up to when it burns", func(p *api.Paper) { p.Number = 40 }, api.ErrState},
		{"another site", func(p *api.Paper) { p.Sites = list(2, 1) }, api.ErrState},
		{"another site, before it burns", func(p *api.Paper) { p.Sites, p.Number = list(2, 1), 9 }, api.OK},
		{"another site, when it burns", func(p *api.Paper) { p.Sites, p.Number = list(2, 1), 10 }, api.ErrState},
		{"the site of the spark", func(p *api.Paper) { p.Sites, p.Number = list(0), 0 }, api.ErrState},
		{"no site", func(p *api.Paper) { p.Sites, p.Number = nil, 100000 }, api.OK},
		{"a site that is none", func(p *api.Paper) { p.Sites = list(2, 3) }, api.ErrState},
		{"a site below all", func(p *api.Paper) { p.Sites = list(-1) }, api.ErrState},
		{"the greatest site", func(p *api.Paper) { p.Sites = list(math.MaxInt) }, api.ErrState},
		{"no plan", func(p *api.Paper) { p.Plan = nil }, api.ErrState},
		{"no strips", func(p *api.Paper) { p.Plan = rows(nil) }, api.ErrState},
		{"two plans", func(p *api.Paper) { p.Plan = rows(list(0), list(0)) }, api.ErrState},
		{"a plan and an empty one", func(p *api.Paper) { p.Plan = rows(list(0), nil) }, api.ErrState},
		{"a strip more", func(p *api.Paper) { p.Plan = rows(list(0, 1)) }, api.OK},
		{"a strip more, and never", func(p *api.Paper) { p.Plan, p.Numbers[2], p.Number = rows(list(0, 1)), -1, 100000 }, api.OK},
		{"a strip too late", func(p *api.Paper) { p.Plan, p.Ground.Strips[0].Work = rows(list(0)), 8 }, api.ErrState},
		{"a plan that is not allowed", func(p *api.Paper) { p.Plan, p.Numbers = rows(list(1, 0)), list(0, 10, 15) }, api.ErrState},
		{"a plan that is not allowed, which keeps the site", func(p *api.Paper) { p.Plan, p.Numbers, p.Number = rows(list(1, 0)), list(0, 10, 15), 14 }, api.ErrState},
		{"a strip that is none", func(p *api.Paper) { p.Plan = rows(list(0, 2)) }, api.ErrState},
		{"a strip twice", func(p *api.Paper) { p.Plan = rows(list(0, 0)) }, api.ErrState},
		{"a later time", func(p *api.Paper) { p.Numbers[2] = 41 }, api.ErrState},
		{"a time that is never", func(p *api.Paper) { p.Numbers[2] = -1 }, api.ErrState},
		{"an earlier time", func(p *api.Paper) { p.Numbers[2], p.Number = 20, 19 }, api.OK},
		{"an earlier time, when it burns", func(p *api.Paper) { p.Numbers[2], p.Number = 20, 20 }, api.ErrState},
		{"no times", func(p *api.Paper) { p.Numbers = nil }, api.ErrState},
		{"no times, no site", func(p *api.Paper) { p.Numbers, p.Sites = nil, nil }, api.ErrState},
		{"a time more", func(p *api.Paper) { p.Numbers = append(p.Numbers, 99) }, api.ErrState},
		{"a site more than there are, with its time", func(p *api.Paper) { p.Numbers, p.Sites = append(p.Numbers, 99), list(3) }, api.ErrState},
		{"a ground that may not be", func(p *api.Paper) { p.Ground.Base = -1 }, api.ErrState},
	})
	calm := with(t, page(api.PgGround, "g", "ground 3\nsite a\nsite b\npath a b 1 1\nspark b 7\n"))
	verifyAll(t, calm, "fire g 6 b a", []spoiled{
		{"the first site alone, for ever", func(p *api.Paper) { p.Sites, p.Number = list(0), math.MaxInt }, api.OK},
		{"the second site when it burns", func(p *api.Paper) { p.Number = 7 }, api.ErrState},
	})
	verifyAll(t, full(), "fire g 40 c", []spoiled{
		{"for ever", func(p *api.Paper) { p.Number = math.MaxInt }, api.OK},
		{"a strip less", func(p *api.Paper) { p.Plan = rows(list(0)) }, api.ErrState},
	})
}

func TestVerifyCrews(t *testing.T) {
	verifyAll(t, full(), "crew k", []spoiled{
		{"as fast", func(p *api.Paper) { p.Numbers = list(0, 2, 3) }, api.OK},
		{"slower", func(p *api.Paper) { p.Numbers = list(0, 2, 5) }, api.ErrState},
		{"slower, with its days", func(p *api.Paper) { p.Numbers, p.Number = list(0, 2, 5), 7 }, api.ErrState},
		{"a day less", func(p *api.Paper) { p.Number = 4 }, api.ErrState},
		{"a day more", func(p *api.Paper) { p.Number = 6 }, api.ErrState},
		{"starts that may not be", func(p *api.Paper) { p.Numbers = list(0, 2, 0) }, api.ErrState},
		{"no starts", func(p *api.Paper) { p.Numbers = nil }, api.ErrState},
		{"no starts, no days", func(p *api.Paper) { p.Numbers, p.Number = nil, 0 }, api.ErrState},
		{"a man more, with whom it is no faster", func(p *api.Paper) { p.Crew.Men++ }, api.OK},
		{"a task less", func(p *api.Paper) { p.Crew.Tasks = p.Crew.Tasks[:2] }, api.ErrState},
		{"a task less, and its start", func(p *api.Paper) { p.Crew.Tasks, p.Numbers = p.Crew.Tasks[:2], list(0, 2) }, api.OK},
		{"a shorter task, with which it would be faster", func(p *api.Paper) { p.Crew.Tasks[1].Days, p.Numbers = 1, list(0, 4, 2) }, api.ErrState},
		{"a crew that may not be", func(p *api.Paper) { p.Crew.Men = 101 }, api.ErrState},
	})
}

// shaken is a text in which some numbers are a little other ones.
func shaken(rng *rand.Rand, text string) string {
	lines := strings.Split(text, "\n")
	for range rng.Intn(4) {
		i := rng.Intn(len(lines) - 1)
		parts := strings.Split(lines[i], " ")
		k := rng.Intn(len(parts))
		if n, err := strconv.Atoi(parts[k]); err == nil {
			parts[k] = strconv.Itoa(max(0, n+between(rng, -3, 3), n*rng.Intn(3)))
			lines[i] = strings.Join(parts, " ")
		}
	}
	return strings.Join(lines, "\n")
}

// shakenBook is the full book with some pages a little other ones, as far as they may be.
func shakenBook(rng *rand.Rand) api.Book {
	b := full()
	for _, p := range full().Pages {
		p.Text = shaken(rng, p.Text)
		if turned, e := yard.Turn(b, p); e == api.OK {
			b = turned
		}
	}
	return b
}

// said is what the answer is to which a paper belongs.
func said(p api.Paper) string {
	words := []string{}
	add := func(list ...int) {
		for _, n := range list {
			words = append(words, strconv.Itoa(n))
		}
	}
	switch p.Kind {
	case api.PaKept:
		return "kept"
	case api.PaDry:
		return "leak " + strconv.Itoa(p.Number)
	case api.PaFields:
		words = append(words, "fields")
		for _, n := range p.Numbers {
			words = append(words, p.Farm.Plots[n].Name)
		}
		words = append(words, "cost")
		add(p.Number)
	case api.PaHolds:
		return "holds"
	case api.PaBreaks:
		return "breaks"
	case api.PaSkin:
		return "yes"
	case api.PaMend:
		words = append(words, "cost")
		add(p.Number)
		for _, row := range p.Plan {
			add(row...)
		}
	case api.PaFire:
		words = append(words, "saved")
		for _, n := range p.Plan[0] {
			words = append(words, p.Ground.Strips[n].Name)
		}
	case api.PaCrew:
		words = append(words, "days")
		add(p.Number)
		add(p.Numbers...)
	}
	return strings.Join(words, " ")
}

// Every paper of Ask is good, and tells the same as the answer; of one with a number that is a little better nothing is good.
func TestPapersAreGood(t *testing.T) {
	rng := rand.New(rand.NewSource(175))
	seen := map[api.PaperKind]int{}
	better := map[api.PaperKind]int{api.PaDry: 1, api.PaFields: -1, api.PaMend: -1, api.PaCrew: -1}
	for range 400 {
		b := shakenBook(rng)
		asked := append(questions(), "skin s "+strconv.Itoa(rng.Intn(200)), "fire g "+strconv.Itoa(rng.Intn(50))+" c")
		for _, question := range asked {
			answer, p, e := yard.Ask(b, question)
			if e != api.OK || p.Kind == api.PaNone {
				continue
			}
			seen[p.Kind]++
			if yard.Verify(p) != api.OK {
				t.Fatal(question, "is not good", p)
			}
			if want := said(p); answer != want && (p.Kind != api.PaDry || !strings.HasPrefix(answer, want+" ")) {
				t.Fatal(question, answer, want)
			}
			if change, ok := better[p.Kind]; ok {
				p.Number += change
				if e := yard.Verify(p); e != api.ErrState {
					t.Fatal(question, "is good", p)
				}
			}
		}
	}
	for kind := api.PaKept; kind <= api.PaCrew; kind++ {
		if seen[kind] < 5 {
			t.Error(seen)
		}
	}
}

// A paper has nothing besides what its kind uses.
func TestPapersHaveNoMore(t *testing.T) {
	weak := with(t, page(api.PgNet, "n", strings.Replace(netText, "left ground 0 8", "left ground 0 2", 1)))
	uses := map[api.PaperKind]string{
		api.PaKept: "area rule coat", api.PaDry: "area coat number numbers", api.PaFields: "farm need numbers number", api.PaHolds: "net numbers",
		api.PaBreaks: "net numbers", api.PaSkin: "skin number", api.PaMend: "works plan number worths", api.PaFire: "ground sites plan number numbers", api.PaCrew: "crew numbers number",
	}
	for _, question := range append(questions(), "holds n again") {
		b := full()
		if question == "holds n again" {
			b, question = weak, "holds n"
		}
		_, p := askBook(t, b, question)
		if p.Kind == api.PaNone {
			continue
		}
		fields := map[string]any{
			"area": p.Area, "rule": p.Rule, "coat": p.Coat, "farm": p.Farm, "need": p.Need, "net": p.Net, "skin": p.Skin, "works": p.Works,
			"ground": p.Ground, "crew": p.Crew, "number": p.Number, "numbers": p.Numbers, "sites": p.Sites, "plan": p.Plan, "worths": p.Worths,
		}
		used := strings.Split(uses[p.Kind], " ")
		for name, x := range fields {
			mayBeNothing := question == "fire g 40" && name == "sites"
			if isNothing(x) == slices.Contains(used, name) && !mayBeNothing {
				t.Error(question, name, x)
			}
		}
	}
}
