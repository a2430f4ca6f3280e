package roof

import (
	"slices"
	"strings"

	"thatch/api"
	"thatch/words"
)

// sideWords are the words of the sides, from south on.
func sideWords() []string { return []string{"south", "east", "north", "west"} }

func write(r api.Roof) string {
	var text strings.Builder
	for _, f := range r.Faces {
		text.WriteString("face " + f.Name + " " + sideWords()[f.Side-api.SiSouth])
		words.WriteNumbers(&text, f.Foot, f.Base, f.Rise, f.Run)
		for _, p := range f.Corners {
			words.WriteNumbers(&text, p.X, p.Y)
		}
		text.WriteString("\n")
	}
	for _, o := range r.Opens {
		words.WriteLine(&text, "open "+o.Name+" "+r.Faces[o.Face].Name, o.Low.X, o.Low.Y, o.High.X, o.High.Y)
	}
	return text.String()
}

// wrongLine is what a reader panics with, and read recovers.
type wrongLine struct {
	line int
	e    api.Errno
}

// reader has the roof of the lines that are read, and the number of the last one.
type reader struct {
	roof api.Roof
	line int
}

// read returns the roof of a text, which need not be one that may be, or the line that is wrong.
func read(text string) (r api.Roof, line int, e api.Errno) {
	defer func() {
		if wrong, ok := recover().(wrongLine); ok {
			line, e = wrong.line, wrong.e
		}
	}()
	var d reader
	for number, s := range words.Lines(text) {
		d.line = number
		d.readLine(strings.Split(s, " "))
	}
	return d.roof, 0, api.OK
}

func (d *reader) fail(e api.Errno) { panic(wrongLine{d.line, e}) }

func (d *reader) readLine(parts []string) {
	switch {
	case slices.Contains(parts, ""):
		d.fail(api.ErrForm)
	case parts[0] == "face" && len(d.roof.Opens) == 0:
		d.readFace(parts[1:])
	case parts[0] == "open":
		d.readOpen(parts[1:])
	default:
		d.fail(api.ErrForm)
	}
}

func (d *reader) readFace(parts []string) {
	if len(parts) < 6 || len(parts)%2 != 0 {
		d.fail(api.ErrForm)
	}
	side := slices.Index(sideWords(), parts[1])
	if side < 0 {
		d.fail(api.ErrForm)
	}
	n := d.numbers(parts[2:])
	f := api.Face{Name: parts[0], Side: api.SiSouth + api.Side(side), Foot: n[0], Base: n[1], Rise: n[2], Run: n[3]}
	for i := 4; i < len(n); i += 2 {
		f.Corners = append(f.Corners, api.At{X: n[i], Y: n[i+1]})
	}
	d.roof.Faces = append(d.roof.Faces, f)
}

func (d *reader) readOpen(parts []string) {
	if len(parts) != 6 {
		d.fail(api.ErrForm)
	}
	n := d.numbers(parts[2:])
	face := findFace(d.roof.Faces, parts[1])
	if face < 0 {
		d.fail(api.ErrNone)
	}
	o := api.Open{Name: parts[0], Face: face, Low: api.At{X: n[0], Y: n[1]}, High: api.At{X: n[2], Y: n[3]}}
	d.roof.Opens = append(d.roof.Opens, o)
}

func (d *reader) numbers(parts []string) []int {
	list, ok := words.Numbers(parts)
	if !ok {
		d.fail(api.ErrForm)
	}
	return list
}
