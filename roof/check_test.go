package roof_test

import (
	"math"
	"math/rand"
	"slices"
	"strconv"
	"strings"
	"testing"

	"thatch/api"
	"thatch/roof"
)

// P1.1 (Check).

type change struct {
	name string
	do   func(r *api.Roof)
	want api.Errno
}

// corners replaces the outline of the first face.
func corners(n ...int) func(r *api.Roof) {
	return func(r *api.Roof) { r.Faces[0].Corners = points(n...) }
}

func opens(l ...api.Open) func(r *api.Roof) {
	return func(r *api.Roof) { r.Opens = l }
}

func open(name string, face, x, y, toX, toY int) api.Open {
	return api.Open{Name: name, Face: face, Low: at(x, y), High: at(toX, toY)}
}

func tryChanges(t *testing.T, list []change) {
	t.Helper()
	for _, c := range list {
		r := house()
		c.do(&r)
		if e := roof.Check(r); e != c.want {
			t.Errorf("%s: %d, not %d", c.name, e, c.want)
		}
	}
}

func TestCheckFace(t *testing.T) {
	first := func(do func(f *api.Face)) func(r *api.Roof) { return func(r *api.Roof) { do(&r.Faces[0]) } }
	tryChanges(t, []change{
		{"as it is", func(r *api.Roof) {}, api.OK},
		{"no faces", func(r *api.Roof) { *r = api.Roof{} }, api.OK},
		{"no name", first(func(f *api.Face) { f.Name = "" }), api.ErrName},
		{"a name of 16", first(func(f *api.Face) { f.Name = strings.Repeat("a", 16) }), api.OK},
		{"a name of 17", first(func(f *api.Face) { f.Name = strings.Repeat("a", 17) }), api.ErrName},
		{"a digit first", first(func(f *api.Face) { f.Name = "1a" }), api.ErrName},
		{"twice", func(r *api.Roof) { r.Faces[1].Name = "s" }, api.ErrTwice},
		{"no side", first(func(f *api.Face) { f.Side = api.SiNone }), api.ErrArg},
		{"behind the sides", first(func(f *api.Face) { f.Side = api.SiWest + 1 }), api.ErrArg},
		{"a side below", first(func(f *api.Face) { f.Side = math.MinInt }), api.ErrArg},
		{"the west", first(func(f *api.Face) { f.Side = api.SiWest }), api.OK},
		{"foot -1", first(func(f *api.Face) { f.Foot = -1 }), api.ErrArg},
		{"foot 10000", first(func(f *api.Face) { f.Foot = 10000 }), api.OK},
		{"foot 10001", first(func(f *api.Face) { f.Foot = 10001 }), api.ErrArg},
		{"base -1", first(func(f *api.Face) { f.Base = -1 }), api.ErrArg},
		{"base 0", first(func(f *api.Face) { f.Base = 0 }), api.OK},
		{"base 10000", first(func(f *api.Face) { f.Base = 10000 }), api.OK},
		{"base 10001", first(func(f *api.Face) { f.Base = 10001 }), api.ErrArg},
		{"rise 0", first(func(f *api.Face) { f.Rise = 0 }), api.ErrArg},
		{"rise 100", first(func(f *api.Face) { f.Rise = 100 }), api.OK},
		{"rise 101", first(func(f *api.Face) { f.Rise = 101 }), api.ErrArg},
		{"run 0", first(func(f *api.Face) { f.Run = 0 }), api.ErrArg},
		{"run 100", first(func(f *api.Face) { f.Run = 100 }), api.OK},
		{"run 101", first(func(f *api.Face) { f.Run = 101 }), api.ErrArg},
		{"run below 0", first(func(f *api.Face) { f.Run = -1 }), api.ErrArg},
	})
}

func TestCheckOutline(t *testing.T) {
	twelve := []int{0, 0, 10, 0, 20, 0, 30, 0, 40, 0, 50, 0, 60, 0, 70, 0, 80, 0, 90, 0, 100, 0, 0, 9}
	tryChanges(t, []change{
		{"12 corners", func(r *api.Roof) { r.Opens = nil; r.Faces[0].Corners = points(twelve...) }, api.OK},
		{"13 corners", corners(append([]int{-1, 0}, twelve...)...), api.ErrLimit},
		{"no corners", corners(), api.ErrArg},
		{"2 corners", corners(0, 0, 100, 0), api.ErrArg},
		{"3 corners", func(r *api.Roof) { r.Opens = nil; r.Faces[0].Corners = points(0, 0, 100, 0, 0, 40) }, api.OK},
		{"x -1", corners(-1, 0, 100, 0, 100, 40), api.ErrArg},
		{"y -1", corners(0, 0, 100, -1, 100, 40), api.ErrArg},
		{"x 10001", corners(0, 0, 10001, 0, 100, 40), api.ErrArg},
		{"y 10001", corners(0, 0, 100, 0, 100, 10001), api.ErrArg},
		{"x 10000", func(r *api.Roof) { r.Opens = nil; r.Faces[0].Corners = points(0, 0, 10000, 0, 0, 1) }, api.OK},
		{"y 10000", func(r *api.Roof) {
			r.Opens = nil
			r.Faces[0].Corners = points(200, 0, 201, 0, 201, 10000, 200, 10000)
		}, api.OK},
		{"a coordinate, and equal corners", corners(0, 0, 0, 0, 100, 40, 0, 10001), api.ErrArg},
		{"equal corners, and not convex", corners(0, 0, 100, 0, 50, 10, 100, 40, 0, 0), api.ErrTwice},
		{"clockwise", corners(0, 0, 0, 40, 100, 40, 100, 0), api.ErrScope},
		{"a dent", corners(0, 0, 100, 0, 50, 10, 100, 40, 0, 40), api.ErrScope},
		{"a cross", corners(0, 0, 100, 0, 0, 40, 100, 40), api.ErrScope},
		{"a star", corners(50, 0, 80, 90, 0, 35, 100, 35, 20, 90), api.ErrScope},
		{"on one line", corners(0, 0, 10, 10, 20, 20), api.ErrScope},
		{"back on one line", corners(0, 0, 20, 20, 10, 10), api.ErrScope},
		{"goes back", corners(0, 0, 60, 0, 30, 0, 100, 0, 100, 40, 0, 40), api.ErrScope},
		{"goes back at the end", corners(30, 0, 100, 0, 100, 40, 0, 40, 0, 0, 60, 0), api.ErrScope},
		{"goes back to the end", corners(100, 40, 0, 40, 0, 0, 100, 0, 100, 50), api.ErrScope},
		{"straight corners", corners(0, 0, 30, 0, 60, 0, 100, 0, 100, 20, 100, 40, 0, 40), api.OK},
		{"a straight corner at the first one", corners(0, 20, 0, 0, 100, 0, 100, 40, 0, 40), api.OK},
	})
}

func TestCheckOpens(t *testing.T) {
	var many []api.Open
	for i := range 12 {
		many = append(many, open("o"+strconv.Itoa(i), 0, 2+5*i, 2, 5+5*i, 9))
	}
	tryChanges(t, []change{
		{"12 openings", opens(many...), api.OK},
		{"13 openings, the first one wrong", opens(append([]api.Open{{}}, many...)...), api.ErrLimit},
		{"no name", opens(open("", 0, 10, 10, 20, 30)), api.ErrName},
		{"no name and no face", opens(open("A", 7, 10, 10, 20, 30)), api.ErrName},
		{"the name of a face", opens(open("s", 0, 10, 10, 20, 30)), api.OK},
		{"twice, and no face", opens(open("a", 0, 10, 10, 20, 30), open("a", 7, 40, 10, 50, 30)), api.ErrTwice},
		{"face -1, and the box", opens(open("a", -1, 20, 10, 10, 30)), api.ErrNone},
		{"face 2", opens(open("a", 2, 10, 10, 20, 30)), api.ErrNone},
		{"no width, and not within", opens(open("a", 0, 0, 10, 0, 30)), api.ErrArg},
		{"less than no width", opens(open("a", 0, 20, 10, 10, 30)), api.ErrArg},
		{"no height", opens(open("a", 0, 10, 30, 20, 30)), api.ErrArg},
		{"on the lower edge", opens(open("a", 0, 10, 0, 20, 30)), api.ErrScope},
		{"on the right edge", opens(open("a", 0, 10, 10, 100, 30)), api.ErrScope},
		{"on the upper edge", opens(open("a", 0, 10, 10, 20, 40)), api.ErrScope},
		{"on the left edge", opens(open("a", 0, 0, 10, 20, 30)), api.ErrScope},
		{"as large as it may be", opens(open("a", 0, 1, 1, 99, 39)), api.OK},
		{"in the other face", opens(open("a", 1, 10, 10, 20, 30)), api.ErrScope},
		{"not within, and in another one", opens(open("a", 0, 10, 10, 20, 30), open("b", 0, 15, 15, 25, 45)), api.ErrScope},
		{"in another one", opens(open("a", 0, 10, 10, 40, 38), open("b", 0, 15, 15, 25, 25)), api.ErrClash},
		{"another one in it", opens(open("b", 0, 15, 15, 25, 25), open("a", 0, 10, 10, 40, 38)), api.ErrClash},
		{"across", opens(open("a", 0, 10, 15, 40, 20), open("b", 0, 20, 10, 30, 30)), api.ErrClash},
		{"side by side, with a border", opens(open("a", 0, 10, 10, 20, 20), open("b", 0, 20, 10, 30, 20)), api.ErrClash},
		{"one above the other, with a border", opens(open("a", 0, 10, 20, 20, 30), open("b", 0, 10, 10, 20, 20)), api.ErrClash},
		{"with a corner", opens(open("a", 0, 10, 10, 20, 20), open("b", 0, 20, 20, 30, 30)), api.ErrClash},
		{"with the one ahead of the one ahead", opens(open("a", 0, 10, 10, 20, 20), open("b", 0, 50, 20, 60, 30), open("c", 0, 5, 5, 10, 10)), api.ErrClash},
		{"apart to the left", opens(open("a", 0, 10, 10, 20, 20), open("b", 0, 5, 10, 9, 20)), api.OK},
		{"apart to the right", opens(open("a", 0, 10, 10, 20, 20), open("b", 0, 21, 10, 30, 20)), api.OK},
		{"apart above", opens(open("a", 0, 10, 10, 20, 20), open("b", 0, 10, 21, 20, 30)), api.OK},
		{"apart below", opens(open("a", 0, 10, 10, 20, 20), open("b", 0, 10, 5, 20, 9)), api.OK},
		{"in both faces", opens(open("a", 0, 10, 10, 20, 30), open("b", 1, 10, 45, 20, 79)), api.OK},
		{"very large numbers", opens(open("a", 0, math.MinInt, math.MinInt, math.MaxInt, math.MaxInt)), api.ErrScope},
		{"numbers whose products wrap around", opens(open("a", 0, 1<<62, 1<<62, 1<<62+1, 1<<62+1)), api.ErrScope},
		{"numbers whose products wrap around to good ones", opens(open("a", 0, 1<<61+10, 1<<62+10, 1<<61+20, 1<<62+30)), api.ErrScope},
	})
}

// A triangle's inside is not that of its box.
func TestCheckOpenInTriangle(t *testing.T) {
	for _, c := range []struct {
		o    api.Open
		want api.Errno
	}{
		{open("a", 0, 1, 1, 9, 10), api.OK},
		{open("a", 0, 1, 1, 10, 10), api.ErrScope},
		{open("a", 0, 1, 1, 18, 2), api.ErrScope},
		{open("a", 0, 1, 1, 17, 2), api.OK},
		{open("a", 0, 18, 18, 19, 19), api.ErrScope},
	} {
		r := api.Roof{Faces: []api.Face{plane("f", api.SiSouth, 0, 0, 0, 20, 0, 0, 20)}, Opens: []api.Open{c.o}}
		if e := roof.Check(r); e != c.want {
			t.Errorf("%v: %d, not %d", c.o, e, c.want)
		}
	}
}

// Each corner of a box is looked at: these triangles have the other three within them.
func TestCheckOpenCorners(t *testing.T) {
	for _, corners := range [][]api.At{points(0, 30, 30, 0, 30, 30), points(0, 0, 30, 30, 0, 30), points(0, 0, 30, 0, 0, 30), points(0, 0, 30, 0, 30, 30)} {
		f := plane("f", api.SiSouth, 0)
		f.Corners = corners
		for size, want := range map[int]api.Errno{2: api.OK, 12: api.ErrScope} {
			// a box around the place that is as far from all three edges
			middle := at((corners[0].X+corners[1].X+corners[2].X)/3, (corners[0].Y+corners[1].Y+corners[2].Y)/3)
			o := open("o", 0, middle.X-size/2, middle.Y-size/2, middle.X+size/2, middle.Y+size/2)
			if e := roof.Check(api.Roof{Faces: []api.Face{f}, Opens: []api.Open{o}}); e != want {
				t.Error(corners, size, e)
			}
		}
	}
}

// Boxes with whole coordinates that have a point in common have one with whole coordinates.
func TestCheckOpensAgainstPoints(t *testing.T) {
	rng := rand.New(rand.NewSource(18))
	count := map[api.Errno]int{}
	random := func(name string) api.Open {
		x, y := 1+rng.Intn(8), 1+rng.Intn(8)
		return open(name, 0, x, y, x+1+rng.Intn(4), y+1+rng.Intn(4))
	}
	for range 2000 {
		a, b := random("a"), random("b")
		want := api.OK
		for x := a.Low.X; x <= a.High.X; x++ {
			for y := a.Low.Y; y <= a.High.Y; y++ {
				if b.Low.X <= x && x <= b.High.X && b.Low.Y <= y && y <= b.High.Y {
					want = api.ErrClash
				}
			}
		}
		count[want]++
		r := house()
		r.Opens = []api.Open{a, b}
		if e := roof.Check(r); e != want {
			t.Fatal(a, b, e)
		}
	}
	if len(count) != 2 {
		t.Error(count)
	}
}

func TestCheckTogether(t *testing.T) {
	both := func(a, b []int) func(r *api.Roof) {
		return func(r *api.Roof) {
			*r = api.Roof{Faces: []api.Face{plane("a", api.SiSouth, 0, a...), plane("b", api.SiEast, 50, b...)}}
		}
	}
	square := []int{10, 10, 30, 10, 30, 30, 10, 30}
	tryChanges(t, []change{
		{"over each other", both(square, []int{20, 20, 40, 20, 40, 40, 20, 40}), api.ErrClash},
		{"one in the other", both(square, []int{15, 15, 25, 15, 20, 25}), api.ErrClash},
		{"the other in one", both([]int{15, 15, 25, 15, 20, 25}, square), api.ErrClash},
		{"the same", both(square, square), api.ErrClash},
		{"the same, begun elsewhere", both(square, []int{30, 30, 10, 30, 10, 10, 30, 10}), api.ErrClash},
		{"across, with no corner in the other", both(square, []int{0, 15, 40, 15, 40, 20, 0, 20}), api.ErrClash},
		{"half of it", both(square, []int{10, 10, 30, 10, 30, 30}), api.ErrClash},
		{"apart", both(square, []int{31, 10, 50, 10, 50, 30, 31, 30}), api.OK},
		{"apart, with boxes that meet", both([]int{0, 0, 20, 0, 0, 20}, []int{20, 10, 20, 20, 10, 20}), api.OK},
		{"a corner in common", both(square, []int{30, 30, 40, 30, 40, 40}), api.OK},
		{"a corner on an edge", both(square, []int{30, 20, 40, 10, 40, 30}), api.OK},
		{"a corner over an edge", both(square, []int{29, 20, 40, 10, 40, 30}), api.ErrClash},
		{"an edge in common", both(square, []int{30, 10, 50, 10, 50, 30, 30, 30}), api.OK},
		{"half an edge in common", both(square, []int{30, 20, 50, 20, 50, 30, 30, 30}), api.ErrScope},
		{"the middle of an edge in common", both(square, []int{30, 15, 50, 15, 50, 25, 30, 25}), api.ErrScope},
		{"more than an edge in common", both(square, []int{30, 5, 50, 5, 50, 35, 30, 35}), api.ErrScope},
		{"parts of edges in common", both(square, []int{30, 20, 50, 20, 50, 40, 30, 40}), api.ErrScope},
		{"an edge and a straight corner", both(square, []int{30, 10, 50, 10, 50, 30, 30, 30, 30, 20}), api.ErrScope},
		{"edges on one line, apart", both(square, []int{30, 31, 50, 31, 50, 40, 30, 40}), api.OK},
		{"edges on one line, end to end", both(square, []int{30, 30, 50, 30, 50, 40, 30, 40}), api.OK},
		{"a sloping edge, half in common", both([]int{0, 0, 20, 0, 20, 20}, []int{0, 0, 10, 10, 0, 20}), api.ErrScope},
	})
}

// Errors ahead in the list hide those behind them.
func TestCheckOrder(t *testing.T) {
	steps := []struct {
		name string
		do   func(r *api.Roof)
		want api.Errno
	}{
		{"faces", func(r *api.Roof) {
			for len(r.Faces) < 17 {
				r.Faces = append(r.Faces, r.Faces[0])
			}
		}, api.ErrLimit},
		{"the first face's outline", func(r *api.Roof) { slices.Reverse(r.Faces[0].Corners) }, api.ErrScope},
		{"the second face's name", func(r *api.Roof) { r.Faces[1].Name = "N" }, api.ErrName},
		{"its side", func(r *api.Roof) { r.Faces[1].Side = 9 }, api.ErrArg},
		{"its outline", func(r *api.Roof) { r.Faces[1].Corners = append(r.Faces[1].Corners, at(100, 80)) }, api.ErrTwice},
		{"openings", func(r *api.Roof) {
			for len(r.Opens) < 13 {
				r.Opens = append(r.Opens, r.Opens[0])
			}
		}, api.ErrLimit},
		{"the first opening's box", func(r *api.Roof) { r.Opens[0].Low.Y = 0 }, api.ErrScope},
		{"the second opening's name", func(r *api.Roof) { r.Opens[1].Name = "stack" }, api.ErrTwice},
		{"its face", func(r *api.Roof) { r.Opens[1].Face = 3 }, api.ErrNone},
		{"a face over another one", func(r *api.Roof) { r.Faces[2].Corners[0].X = 99 }, api.ErrClash},
		{"a part of an edge", func(r *api.Roof) { r.Faces[2].Corners[0].Y--; r.Faces[2].Corners[1].Y++ }, api.ErrScope},
		{"nothing", func(r *api.Roof) {}, api.OK},
	}
	for i, first := range steps {
		for _, second := range steps[i+1:] {
			r := house()
			r.Faces = append(r.Faces, plane("e", api.SiEast, 140, 100, 40, 100, 0, 140, 20))
			r.Opens = append(r.Opens, open("vent", 0, 40, 10, 50, 20))
			if e := roof.Check(r); e != api.OK {
				t.Fatal(e)
			}
			second.do(&r)
			first.do(&r)
			if e := roof.Check(r); e != first.want {
				t.Errorf("%s, and %s: %d, not %d", first.name, second.name, e, first.want)
			}
		}
	}
}

func TestCheckFaceOrder(t *testing.T) {
	steps := []struct {
		do   func(f *api.Face)
		want api.Errno
	}{
		{func(f *api.Face) { f.Name = "s" }, api.ErrTwice},
		{func(f *api.Face) { f.Run = 0 }, api.ErrArg},
		{func(f *api.Face) { f.Corners = make([]api.At, 13) }, api.ErrLimit},
		{func(f *api.Face) {}, api.OK},
	}
	for i, first := range steps {
		for _, second := range steps[i+1:] {
			r := house()
			second.do(&r.Faces[1])
			first.do(&r.Faces[1])
			if e := roof.Check(r); e != first.want {
				t.Error(i, e)
			}
		}
	}
}

func TestCheckMost(t *testing.T) {
	var r api.Roof
	for i := range 16 {
		r.Faces = append(r.Faces, plane("f"+strconv.Itoa(i), api.SiSouth, 0, 10*i, 0, 10*i+10, 0, 10*i+10, 10, 10*i, 10))
	}
	if e := roof.Check(r); e != api.OK {
		t.Error(e)
	}
}

func randomPoints(rng *rand.Rand, count, size int) []api.At {
	var list []api.At
	for len(list) < count {
		if p := at(rng.Intn(size), rng.Intn(size)); !slices.Contains(list, p) {
			list = append(list, p)
		}
	}
	return list
}

func TestCheckConvexAgainstTriangles(t *testing.T) {
	rng := rand.New(rand.NewSource(1))
	count := map[bool]int{}
	for range 30000 {
		p := randomPoints(rng, 3+rng.Intn(4), 2+rng.Intn(3)+1)
		f := plane("f", api.SiSouth, 0)
		f.Corners = p
		want := api.OK
		if !isHull(p) {
			want = api.ErrScope
		}
		count[want == api.OK]++
		if e := roof.Check(api.Roof{Faces: []api.Face{f}}); e != want {
			t.Fatal(p, e)
		}
	}
	if count[true] < 1000 || count[false] < 1000 {
		t.Error(count)
	}
}

func TestCheckTogetherAgainstCuts(t *testing.T) {
	rng := rand.New(rand.NewSource(2))
	count := map[api.Errno]int{}
	outline := func(name string) api.Face {
		f := plane(name, api.SiSouth, 0)
		for {
			f.Corners = randomPoints(rng, 3+rng.Intn(2), 6)
			if isHull(f.Corners) {
				return f
			}
		}
	}
	for range 6000 {
		a, b := outline("a"), outline("b")
		want := api.OK
		for _, e := range sides(a) {
			for _, o := range sides(b) {
				if e != [2]api.At{o[1], o[0]} && overlap(e, o) {
					want = api.ErrScope
				}
			}
		}
		if meet(a, b) {
			want = api.ErrClash
		}
		count[want]++
		if e := roof.Check(api.Roof{Faces: []api.Face{a, b}}); e != want {
			t.Fatal(a.Corners, b.Corners, e, want)
		}
	}
	if count[api.OK] < 100 || count[api.ErrScope] < 50 || count[api.ErrClash] < 100 {
		t.Error(count)
	}
}
