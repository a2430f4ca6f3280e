package fire

import (
	"slices"
	"strings"

	"thatch/api"
	"thatch/fault"
	"thatch/words"
)

// firstWords are the first words of lines, in the order in which these stand.
func firstWords() []string { return []string{"ground", "site", "path", "strip", "spark"} }

func write(g api.Ground) string {
	var text strings.Builder
	words.WriteLine(&text, "ground", g.Base)
	for _, name := range g.Sites {
		words.WriteLine(&text, "site "+name)
	}
	for _, p := range g.Paths {
		words.WriteLine(&text, "path "+g.Sites[p.From]+" "+g.Sites[p.To], p.Time.Low, p.Time.High)
	}
	for _, s := range g.Strips {
		words.WriteLine(&text, "strip "+s.Name+" "+g.Sites[s.Site], append([]int{s.At, s.Work}, s.Paths...)...)
	}
	for _, s := range g.Sparks {
		words.WriteLine(&text, "spark "+g.Sites[s.Site], s.Time)
	}
	return text.String()
}

// draft is the ground of the lines that are read, with the numbers of its sites by their names, and where the first word of the last line stands in the order.
type draft struct {
	ground  api.Ground
	numbers map[string]int
	order   int
}

// read returns the ground of a text, which need not be one that may be, or the line that is wrong.
func read(text string) (api.Ground, int, api.Errno) {
	if text == "" {
		return api.Ground{}, 0, api.ErrForm
	}
	d, line, e := words.Read(text, (*draft).readLine)
	return d.ground, line, e
}

// readLine takes the line ground, and no other, as the first one.
func (d *draft) readLine(line int, parts []string) {
	order := slices.Index(firstWords(), parts[0])
	fault.Unless(order >= d.order && (order == 0) == (line == 1) && !slices.Contains(parts, ""), api.ErrForm)
	d.order = order
	g := &d.ground
	switch parts[0] {
	case "ground":
		g.Base = words.NumbersBehind(parts, 1, 1)[0]
		d.numbers = map[string]int{}
	case "site":
		words.NumbersBehind(parts, 2, 0)
		d.addSite(parts[1])
	case "path":
		n := words.NumbersBehind(parts, 3, 2)
		g.Paths = append(g.Paths, api.Path{From: d.site(parts[1]), To: d.site(parts[2]), Time: api.Span{Low: n[0], High: n[1]}})
	case "strip":
		n := words.NumbersBehind(parts, 3, max(2, len(parts)-3))
		g.Strips = append(g.Strips, api.Strip{Name: parts[1], Site: d.site(parts[2]), At: n[0], Work: n[1], Paths: n[2:]})
	case "spark":
		n := words.NumbersBehind(parts, 2, 1)
		g.Sparks = append(g.Sparks, api.Spark{Site: d.site(parts[1]), Time: n[0]})
	}
}

// addSite adds a site. Of several with one name the first one is found by it.
func (d *draft) addSite(name string) {
	if _, ok := d.numbers[name]; !ok {
		d.numbers[name] = len(d.ground.Sites)
	}
	d.ground.Sites = append(d.ground.Sites, name)
}

// site returns the number of the site with a name.
func (d *draft) site(name string) int {
	number, ok := d.numbers[name]
	fault.Unless(ok, api.ErrNone)
	return number
}
