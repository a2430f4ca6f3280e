package run_test

import (
	"math"
	"slices"
	"testing"

	"thatch/api"
	"thatch/roof"
	"thatch/run"
)

// P5.4 (Lasts, House).

func isLasts(t *testing.T, c api.Coat, want int, takes ...int) {
	t.Helper()
	if years := lasts(t, square(), c, takes...); years != want {
		t.Error(c, takes, years, want)
	}
}

func TestLastsExample(t *testing.T) { isLasts(t, example(), 6, 30, 0) }

func TestLasts(t *testing.T) {
	isLasts(t, example(), 0, 100)
	isLasts(t, example(), 0, 1000)
	isLasts(t, example(), 1, 99)
	isLasts(t, example(), 1, 50)
	isLasts(t, example(), 2, 49)
	isLasts(t, example(), 2, 33, 33, 34)
	isLasts(t, example(), 3, 33, 33, 33)
	isLasts(t, example(), 7, 0, 30)
	isLasts(t, example(), 2, 0, 0, 100)
	isLasts(t, example(), 99, 1)
	// at most 1000 years, however long it would last
	isLasts(t, example(), 1000, 0)
	thick := courses(wholly(-5, api.MaxThick))
	isLasts(t, thick, 999, 1)
	isLasts(t, thick, 1000, append(make([]int, 99), 1)...)
	isLasts(t, thick, 1000, append(slices.Repeat([]int{1}, 99), 0)...)
	isLasts(t, thick, 999, append(make([]int, 9), 10)...)
	isLasts(t, thick, 1000, append(make([]int, 9), 9)...)
	// It is wet from the beginning.
	isLasts(t, api.Coat{}, -1, 5)
	isLasts(t, api.Coat{}, -1, 0)
	isLasts(t, courses(wholly(-60, 7)), -1, 0)
}

func TestLastsErrors(t *testing.T) {
	for _, takes := range [][]int{nil, {}, make([]int, 101), {-1}, {1001}, {3, 4, -1}, {math.MinInt}, {math.MaxInt}, make([]int, 1<<20)} {
		for _, c := range []api.Coat{example(), {}} {
			if years, e := run.Lasts(square(), c, takes); e != api.ErrArg || years != 0 {
				t.Error(len(takes), years, e)
			}
		}
		for _, x := range wrongOnes() {
			if years, e := run.Lasts(x.a, x.c, takes); e != x.want || years != 0 {
				t.Error(x, len(takes), years, e)
			}
		}
	}
	isLasts(t, example(), 0, 1000)
	isLasts(t, example(), 1000, make([]int, 100)...)
}

// house is two faces, each as the square is, and a third one by itself that has a hole.
func house() api.Roof {
	face := func(name string, side api.Side, foot int, corners ...api.At) api.Face {
		return api.Face{Name: name, Side: side, Foot: foot, Base: 300, Rise: 1, Run: 1, Corners: corners}
	}
	return api.Roof{
		Faces: []api.Face{
			face("s", api.SiSouth, 0, api.At{}, api.At{X: 40}, api.At{X: 40, Y: 40}, api.At{Y: 40}),
			face("n", api.SiNorth, 80, api.At{X: 40, Y: 80}, api.At{Y: 80}, api.At{Y: 40}, api.At{X: 40, Y: 40}),
			face("e", api.SiEast, 140, api.At{X: 100}, api.At{X: 140}, api.At{X: 140, Y: 40}, api.At{X: 100, Y: 40}),
		},
		Opens: []api.Open{{Name: "stack", Face: 2, Low: api.At{X: 110, Y: 5}, High: api.At{X: 130, Y: 35}}},
	}
}

// standing is the house, but both faces fall to the line between them.
func standing() api.Roof {
	r := house()
	r.Faces[0].Side, r.Faces[1].Side = api.SiNorth, api.SiSouth
	r.Faces[0].Foot, r.Faces[1].Foot = 40, 40
	return r
}

func isHouse(t *testing.T, r api.Roof, coats []api.Coat, want ...int) {
	t.Helper()
	if l, e := run.House(r, coats); e != api.OK || !slices.Equal(l, want) {
		t.Error(coats, l, e, want)
	}
}

func TestHouse(t *testing.T) {
	isHouse(t, api.Roof{}, nil)
	isHouse(t, house(), []api.Coat{example(), {}, hidden()}, 100, 0, 70)
	isHouse(t, house(), []api.Coat{hidden(), example(), hidden()}, 70, 100, 70)
	// The hole of e goes, seen from before its eave, from 10 to 30 in height, and over most of its width.
	open := courses(course(-5, bundle(0, 5, 50, 8), bundle(35, 5, 50, 9)), course(-4, bundle(0, 40, 14, 7)), course(30, bundle(0, 40, 10, 7)))
	isHouse(t, house(), []api.Coat{open, open, open}, 0, 0, 7)
	isHouse(t, standing(), []api.Coat{example(), example(), hidden()}, 0, 0, 70)
}

func TestHouseErrors(t *testing.T) {
	good, bad := example(), courses(course(1), course(1))
	limit := api.Coat{Courses: make([]api.Course, api.MaxCourses+1)}
	wide := func(face int) api.Roof {
		r := house()
		r.Faces[face].Foot, r.Opens = 9000, nil
		r.Faces[face].Corners = []api.At{{X: 8000, Y: 8000}, {X: 9000, Y: 8000}, {X: 9000, Y: 8001}}
		return r
	}
	wrong := house()
	wrong.Faces[1].Name = "s"
	for _, x := range []struct {
		r     api.Roof
		coats []api.Coat
		want  api.Errno
	}{
		{wrong, nil, api.ErrTwice},
		{wrong, []api.Coat{bad, bad, bad}, api.ErrTwice},
		{house(), nil, api.ErrArg},
		{house(), []api.Coat{good, good}, api.ErrArg},
		{house(), []api.Coat{bad, good, good, good}, api.ErrArg},
		{api.Roof{}, []api.Coat{good}, api.ErrArg},
		{wide(0), []api.Coat{good}, api.ErrArg},
		{house(), []api.Coat{good, good, bad}, api.ErrState},
		{house(), []api.Coat{good, limit, bad}, api.ErrLimit},
		{standing(), []api.Coat{bad, limit, good}, api.ErrState},
		{standing(), []api.Coat{good, limit, bad}, api.ErrLimit},
		{wide(1), []api.Coat{good, good, good}, api.ErrScope},
		{wide(1), []api.Coat{bad, good, good}, api.ErrState},
		{wide(1), []api.Coat{good, bad, good}, api.ErrScope},
		{wide(1), []api.Coat{good, good, bad}, api.ErrScope},
	} {
		if l, e := run.House(x.r, x.coats); e != x.want || l != nil {
			t.Error(x, l, e)
		}
	}
	if e := roof.Check(wide(1)); e != api.OK {
		t.Error(e)
	}
}
