package roof_test

import (
	"math/rand"
	"slices"
	"testing"

	"thatch/api"
	"thatch/roof"
)

// P1.3 (Areas, Lay).

func pts(n ...int) []api.Pt {
	var list []api.Pt
	for _, p := range points(n...) {
		list = append(list, api.Pt{U: p.X, V: p.Y})
	}
	return list
}

func box(u, v, toU, toV int) api.Box {
	return api.Box{From: api.Pt{U: u, V: v}, To: api.Pt{U: toU, V: toV}}
}

func TestAreas(t *testing.T) {
	r := house()
	r.Opens = append(r.Opens, open("b", 1, 1, 41, 2, 79), open("c", 0, 50, 1, 60, 2))
	for _, c := range []struct {
		r    api.Roof
		want []int
	}{{api.Roof{}, nil}, {house(), []int{7600, 8000}}, {r, []int{7580, 7924}}, {hipped(), []int{1600, 800, 1600, 800}}, {pit(), []int{200, 200, 200, 200}},
		{api.Roof{Faces: []api.Face{plane("a", api.SiWest, 0, 7, 3, 8, 3, 9, 4)}}, []int{1}},
		{api.Roof{Faces: []api.Face{plane("a", api.SiWest, 0, 0, 0, 10000, 0, 10000, 10000, 0, 10000)}}, []int{200000000}},
	} {
		if l, e := roof.Areas(c.r); e != api.OK || !slices.Equal(l, c.want) {
			t.Error(c.want, l, e)
		}
	}
	r.Opens[0].Name = "-"
	if l, e := roof.Areas(r); e != api.ErrName || l != nil {
		t.Error(l, e)
	}
}

// Twice an area is found from the points with whole coordinates, too: twice those on the face, less those on its border, less 2.
func TestAreasAgainstPoints(t *testing.T) {
	rng := rand.New(rand.NewSource(6))
	for range 20 {
		r := randomRoof(rng)
		r.Opens = nil
		on := make([]int, len(r.Faces))
		for x := range roofSize + 1 {
			for y := range roofSize + 1 {
				l, _, _ := roof.Where(r, at(x, y))
				for _, i := range l {
					on[i]++
				}
			}
		}
		for i, f := range r.Faces {
			border := 0
			for _, e := range sides(f) {
				d := sub(e[1], e[0])
				a, b := max(d.X, -d.X), max(d.Y, -d.Y)
				for b != 0 {
					a, b = b, a%b
				}
				border += a
			}
			on[i] = 2*on[i] - border - 2
		}
		if l, e := roof.Areas(r); e != api.OK || !slices.Equal(l, on) {
			t.Fatal(r, l, on, e)
		}
	}
}

func TestLay(t *testing.T) {
	for _, c := range []struct {
		side    api.Side
		outline []api.Pt
		holes   []api.Box
	}{
		{api.SiSouth, pts(0, 0, 30, 0, 30, 20, 10, 20), []api.Box{box(25, 2, 29, 8), box(11, 10, 14, 19)}},
		{api.SiEast, pts(0, 30, 0, 0, 20, 0, 20, 20), []api.Box{box(2, 1, 8, 5), box(10, 16, 19, 19)}},
		{api.SiNorth, pts(30, 20, 0, 20, 0, 0, 20, 0), []api.Box{box(1, 12, 5, 18), box(16, 1, 19, 10)}},
		{api.SiWest, pts(20, 0, 20, 30, 0, 30, 0, 10), []api.Box{box(12, 25, 18, 29), box(1, 11, 10, 14)}},
	} {
		r := api.Roof{
			Faces: []api.Face{plane("other", api.SiEast, 0, 0, 0, 100, 0, 100, 100, 0, 100), plane("f", c.side, 7, 110, 40, 140, 40, 140, 60, 120, 60)},
			Opens: []api.Open{open("o", 1, 135, 42, 139, 48), open("x", 0, 10, 10, 20, 20), open("p", 1, 121, 50, 124, 59)},
		}
		a, e := roof.Lay(r, 1)
		if e != api.OK || !slices.Equal(a.Outline, c.outline) || !slices.Equal(a.Holes, c.holes) {
			t.Error(c.side, a, e)
		}
	}
}

func TestLayLimits(t *testing.T) {
	upright := plane("a", api.SiSouth, 0, 5, 5, 15, 5, 15, 405, 5, 405)
	across := plane("a", api.SiSouth, 0, 5, 5, 405, 5, 405, 15, 5, 15)
	for _, f := range []api.Face{upright, across} {
		for side := api.SiSouth; side <= api.SiWest; side++ {
			f.Side = side
			r := copyRoof(api.Roof{Faces: []api.Face{f}})
			a, e := roof.Lay(r, 0)
			if e != api.OK || len(a.Outline) != 4 {
				t.Error(side, a, e)
			}
			// one more, farther to the east or to the north
			for i, p := range r.Faces[0].Corners {
				if p.X == 405 {
					r.Faces[0].Corners[i].X++
				}
				if p.Y == 405 {
					r.Faces[0].Corners[i].Y++
				}
			}
			if a, e := roof.Lay(r, 0); e != api.ErrScope || a.Outline != nil || a.Holes != nil {
				t.Error(side, a, e)
			}
		}
	}
	r := house()
	for i := range 6 {
		r.Opens = append(r.Opens, open("o"+string(rune('0'+i)), 1, 10*i+1, 50, 10*i+5, 60))
	}
	if a, e := roof.Lay(r, 1); e != api.OK || len(a.Holes) != 6 {
		t.Error(a, e)
	}
	r.Opens = append(r.Opens, open("last", 1, 90, 50, 95, 60))
	if a, e := roof.Lay(r, 1); e != api.ErrScope || a.Outline != nil || a.Holes != nil {
		t.Error(a, e)
	}
	if a, e := roof.Lay(r, 0); e != api.OK || len(a.Holes) != 1 {
		t.Error(a, e)
	}
}

func TestLayErrors(t *testing.T) {
	wrong := house()
	wrong.Faces[1].Run = 0
	for _, c := range []struct {
		r    api.Roof
		face int
		want api.Errno
	}{{wrong, 9, api.ErrArg}, {house(), -1, api.ErrNone}, {house(), 2, api.ErrNone}, {api.Roof{}, 0, api.ErrNone}} {
		if a, e := roof.Lay(c.r, c.face); e != c.want || a.Outline != nil || a.Holes != nil {
			t.Error(c.face, a, e)
		}
	}
}
