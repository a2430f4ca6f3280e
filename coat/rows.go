package coat

import (
	"iter"
	"slices"
	"sync"

	"thatch/api"
	"thatch/plane"
)

// workers is how many goroutines work on the lines of a drawing.
const workers = 4

// drawing is the sides of an area and of the bundles of a coat.
type drawing []side

func draw(a api.Area, c api.Coat) drawing {
	var d drawing
	for _, r := range rimsOf(a.Outline) {
		d = append(d, r)
	}
	for _, h := range a.Holes {
		for _, j := range jambsOf(h) {
			d = append(d, j)
		}
	}
	for _, k := range c.Courses {
		for _, b := range k.Bundles {
			for _, s := range stemsOf(k.V, b) {
				d = append(d, s)
			}
		}
	}
	return d
}

// meeting is where a line meets a side.
type meeting struct {
	u    plane.Quotient
	side side
}

// meetings returns where the line at a height meets sides, from left to right.
func (d drawing) meetings(v plane.Quotient) []meeting {
	var list []meeting
	for _, s := range d {
		if s.meets(v) {
			list = append(list, meeting{s.At(v), s})
		}
	}
	slices.SortFunc(list, func(a, b meeting) int { return a.u.Compare(b.u) })
	return list
}

// tally is what lies over a point of a line, and whether it is inside of the area: 1 if it is, 0 if not.
type tally struct{ inside, layers, thick int }

// pass goes to the right over a side.
func (t *tally) pass(s side) {
	switch x := s.(type) {
	case stem:
		t.layers += x.Step()
		t.thick += x.Step() * x.thick
	case rim:
		t.inside += x.Step()
	case jamb:
		t.inside -= x.Step()
	}
}

// pieces yields the parts of the line at a height, from left to right, that are in the area and end where the line meets sides. Side by side two of them may have the same over them.
func (d drawing) pieces(v plane.Quotient) iter.Seq[api.Stretch] {
	return func(yield func(api.Stretch) bool) {
		var t tally
		var last plane.Quotient
		for _, m := range d.meetings(v) {
			if t.inside > 0 && last != m.u {
				piece := api.Stretch{From: api.Ratio(last), To: api.Ratio(m.u), Layers: t.layers, Thick: t.thick}
				if !yield(piece) {
					return
				}
			}
			t.pass(m.side)
			last = m.u
		}
	}
}

// stretches returns the pieces of a line, joined where the same lies over neighbours.
func (d drawing) stretches(v plane.Quotient) []api.Stretch {
	var list []api.Stretch
	for p := range d.pieces(v) {
		if n := len(list) - 1; n >= 0 && list[n].To == p.From && list[n].Layers == p.Layers && list[n].Thick == p.Thick {
			list[n].To = p.To
		} else {
			list = append(list, p)
		}
	}
	return list
}

// found is a piece of the line with that number.
type found struct {
	line, size int
	spot       api.Spot
}

// least returns the least size of a piece of all lines, and a spot in the first piece that has it. Over a side lies all that lies beside it, so the points between sides tell the least there is.
func (d drawing) least(size func(api.Stretch) int) (int, api.Spot) {
	levels := slices.Collect(plane.Levels(d))
	sent := make(chan found, len(levels))
	var group sync.WaitGroup
	for worker := range workers {
		group.Go(func() {
			for i := worker; i < len(levels); i += workers {
				if f, ok := d.leastOf(levels[i], size); ok {
					f.line = i
					sent <- f
				}
			}
		})
	}
	group.Wait()
	close(sent)
	best := found{line: -1}
	for f := range sent {
		if best.line < 0 || f.size < best.size || f.size == best.size && f.line < best.line {
			best = f
		}
	}
	return best.size, best.spot
}

// leastOf returns the first piece of a line with the least size there, and whether the line has any.
func (d drawing) leastOf(v plane.Quotient, size func(api.Stretch) int) (best found, ok bool) {
	for p := range d.pieces(v) {
		if n := size(p); !ok || n < best.size {
			u := plane.Quotient(p.From).Between(plane.Quotient(p.To))
			best, ok = found{size: n, spot: api.Spot{U: api.Ratio(u), V: api.Ratio(v)}}, true
		}
	}
	return best, ok
}
