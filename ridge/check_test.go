package ridge_test

import (
	"math"
	"math/rand"
	"slices"
	"strings"
	"testing"

	"thatch/api"
	"thatch/ridge"
)

// P6.1 (Check, Fits, Needs).

func TestCheckEnds(t *testing.T) {
	for _, c := range []struct {
		name string
		r    api.Ridge
		want api.Errno
	}{
		{"as it is", example(), api.OK},
		{"nothing", api.Ridge{}, api.OK},
		{"length -1", of(-1, 0, 0), api.ErrArg},
		{"length 2000", of(2000, 0, 0), api.OK},
		{"length 2001", of(2001, 0, 0), api.ErrArg},
		{"the least length", of(math.MinInt, 0, 0), api.ErrArg},
		{"the greatest length", of(math.MaxInt, 0, 0), api.ErrArg},
		{"start -1", of(5, -1, 0), api.ErrArg},
		{"start 9", of(5, 9, 0), api.OK},
		{"start 10", of(5, 10, 0), api.ErrArg},
		{"end -1", of(5, 0, -1), api.ErrArg},
		{"end 9", of(5, 0, 9), api.OK},
		{"end 10", of(5, 0, 10), api.ErrArg},
		{"10 pieces", plain(5, 10, 1), api.OK},
		{"11 pieces", plain(5, 11, 1), api.ErrLimit},
		{"11 pieces that are none", of(5, 0, 0, make([]api.Piece, 11)...), api.ErrLimit},
		{"11 pieces, length -1", plain(-1, 11, 1), api.ErrArg},
		{"11 pieces, start 10", of(5, 10, 0, make([]api.Piece, 11)...), api.ErrArg},
		{"11 pieces, end 10", of(5, 0, 10, make([]api.Piece, 11)...), api.ErrArg},
		{"a piece that is none, end -1", of(5, 0, -1, api.Piece{}), api.ErrArg},
	} {
		if e := ridge.Check(c.r); e != c.want {
			t.Errorf("%s: %d, not %d", c.name, e, c.want)
		}
	}
}

func TestCheckPiece(t *testing.T) {
	for _, c := range []struct {
		name string
		do   func(p *api.Piece) // with the piece two, which is 2 wide
		want api.Errno
	}{
		{"as it is", func(p *api.Piece) {}, api.OK},
		{"no name", func(p *api.Piece) { p.Name = "" }, api.ErrName},
		{"a name of 16", func(p *api.Piece) { p.Name = strings.Repeat("a", 16) }, api.OK},
		{"a name of 17", func(p *api.Piece) { p.Name = strings.Repeat("a", 17) }, api.ErrName},
		{"a digit first", func(p *api.Piece) { p.Name = "2" }, api.ErrName},
		{"a great letter", func(p *api.Piece) { p.Name = "Two" }, api.ErrName},
		{"a name with a blank", func(p *api.Piece) { p.Name = "t wo" }, api.ErrName},
		{"the name of one ahead", func(p *api.Piece) { p.Name = "one" }, api.ErrTwice},
		{"width -1", func(p *api.Piece) { p.Width = -1 }, api.ErrArg},
		{"width 0", func(p *api.Piece) { p.Width = 0 }, api.ErrArg},
		{"width 1", func(p *api.Piece) { p.Width = 1 }, api.OK},
		{"wider than the ridge", func(p *api.Piece) { p.Width = 6 }, api.OK},
		{"width 2000", func(p *api.Piece) { p.Width = 2000 }, api.OK},
		{"width 2001", func(p *api.Piece) { p.Width = 2001 }, api.ErrArg},
		{"the greatest width", func(p *api.Piece) { p.Width = math.MaxInt }, api.ErrArg},
		{"both profiles -1", func(p *api.Piece) { p.Left, p.Right = -1, -1 }, api.ErrArg},
		{"both profiles 9", func(p *api.Piece) { p.Left, p.Right = 9, 9 }, api.OK},
		{"left 10", func(p *api.Piece) { p.Left = 10 }, api.ErrArg},
		{"right 10", func(p *api.Piece) { p.Right = 10 }, api.ErrArg},
		{"left -1", func(p *api.Piece) { p.Left = -1 }, api.ErrArg},
		{"right -1", func(p *api.Piece) { p.Right = -1 }, api.ErrArg},
		{"mirror -1", func(p *api.Piece) { p.Mirror = -1 }, api.ErrNone},
		{"mirror 4", func(p *api.Piece) { p.Mirror = 4 }, api.ErrNone},
		{"the least mirror", func(p *api.Piece) { p.Mirror = math.MinInt }, api.ErrNone},
		{"the greatest mirror", func(p *api.Piece) { p.Mirror = math.MaxInt }, api.ErrNone},
		{"the mirror of another one", func(p *api.Piece) { p.Mirror = 0 }, api.ErrClash},
		{"its own mirror, with two profiles", func(p *api.Piece) { p.Right = 1 }, api.ErrClash},
		{"no name, and a width", func(p *api.Piece) { p.Name, p.Width = "", 0 }, api.ErrName},
		{"twice, and a width", func(p *api.Piece) { p.Name, p.Width = "one", 0 }, api.ErrTwice},
		{"a width, and a mirror", func(p *api.Piece) { p.Width, p.Mirror = 0, 4 }, api.ErrArg},
		{"two profiles, and mirror 4", func(p *api.Piece) { p.Right, p.Mirror = 1, 4 }, api.ErrNone},
	} {
		r := example()
		c.do(&r.Pieces[1])
		if e := ridge.Check(r); e != c.want {
			t.Errorf("%s: %d, not %d", c.name, e, c.want)
		}
	}
}

func TestCheckMirrors(t *testing.T) {
	for _, c := range []struct {
		name   string
		pieces []api.Piece
		want   api.Errno
	}{
		{"a pair", []api.Piece{piece("a", 1, 0, 1, 1), piece("b", 1, 1, 0, 0)}, api.OK},
		{"a pair that looks alike", []api.Piece{piece("a", 1, 2, 2, 1), piece("b", 1, 2, 2, 0)}, api.OK},
		{"each its own", []api.Piece{piece("a", 1, 2, 2, 0), piece("b", 1, 2, 2, 1)}, api.OK},
		{"widths", []api.Piece{piece("a", 1, 0, 1, 1), piece("b", 2, 1, 0, 0)}, api.ErrClash},
		{"left of the first", []api.Piece{piece("a", 1, 2, 1, 1), piece("b", 1, 1, 0, 0)}, api.ErrClash},
		{"right of the first", []api.Piece{piece("a", 1, 0, 2, 1), piece("b", 1, 1, 0, 0)}, api.ErrClash},
		{"the same, not turned", []api.Piece{piece("a", 1, 0, 1, 1), piece("b", 1, 0, 1, 0)}, api.ErrClash},
		{"both to the first", []api.Piece{piece("a", 1, 0, 0, 0), piece("b", 1, 0, 0, 0)}, api.ErrClash},
		{"both to the second", []api.Piece{piece("a", 1, 0, 0, 1), piece("b", 1, 0, 0, 1)}, api.ErrClash},
		{"around", []api.Piece{piece("a", 1, 0, 0, 1), piece("b", 1, 0, 0, 2), piece("c", 1, 0, 0, 0)}, api.ErrClash},
		{"a clash ahead of none", []api.Piece{piece("a", 1, 0, 1, 0), piece("b", 1, 0, 0, 2)}, api.ErrClash},
		{"none ahead of a clash", []api.Piece{piece("a", 1, 0, 0, 2), piece("b", 1, 0, 1, 1)}, api.ErrNone},
		{"none, and a width behind it", []api.Piece{piece("a", 1, 0, 0, 2), piece("b", 0, 0, 0, 1)}, api.ErrArg},
		{"a clash, and a name behind it", []api.Piece{piece("a", 1, 0, 1, 0), piece("B", 1, 0, 0, 1)}, api.ErrName},
		{"a clash, and a name twice behind it", []api.Piece{piece("a", 1, 0, 1, 0), piece("a", 1, 0, 0, 1)}, api.ErrTwice},
		{"a width, and a name behind it", []api.Piece{piece("a", 0, 0, 0, 0), piece("B", 1, 0, 0, 1)}, api.ErrArg},
		{"a name, and a width behind it", []api.Piece{piece("A", 1, 0, 0, 0), piece("b", 0, 0, 0, 1)}, api.ErrName},
	} {
		if e := ridge.Check(of(5, 0, 0, c.pieces...)); e != c.want {
			t.Errorf("%s: %d, not %d", c.name, e, c.want)
		}
	}
}

func TestFits(t *testing.T) {
	none := api.Ridge{}
	for _, c := range []struct {
		r    api.Ridge
		row  []int
		want bool
	}{
		{example(), []int{0, 1, 1}, true},
		{example(), []int{0, 2, 3, 1}, true},
		{example(), []int{2, 1, 3}, false},
		{example(), nil, false},
		{example(), []int{1, 1}, false},
		{example(), []int{1, 1, 1}, false},
		{example(), []int{1, 1, 0, 0}, false},
		{example(), []int{0, 0, 0, 0, 2}, false},
		{example(), []int{3, 0, 0, 0, 0}, false},
		{example(), []int{3, 2, 1, 0}, false},
		{example(), []int{0, 0, 0, 0, 0, 2, 3}, false},
		{example(), []int{0, 0, 0, 0, 0, 4}, false},
		{example(), []int{0, 0, 0, 0, 0, -1}, false},
		{example(), []int{-1, 0, 1, 1}, false},
		{example(), []int{4, 0, 1, 1}, false},
		{example(), []int{math.MinInt}, false},
		{example(), []int{0, math.MaxInt, 1, 1}, false},
		{changed(func(r *api.Ridge) { r.End = 1 }), []int{1, 1, 2}, true},
		{changed(func(r *api.Ridge) { r.Start = 1 }), []int{3, 1, 1}, true},
		{changed(func(r *api.Ridge) { r.Start, r.End = 1, 1 }), []int{3, 0, 1, 2}, true},
		{changed(func(r *api.Ridge) { r.Start = 2 }), []int{3, 1, 1}, false},
		{none, nil, true},
		{none, []int{0}, false},
		{of(0, 4, 4), nil, true},
		{of(0, 4, 5), nil, false},
		{of(1, 4, 4), nil, false},
		{changed(func(r *api.Ridge) { r.Length = 0 }), nil, true},
		{changed(func(r *api.Ridge) { r.Length = 0 }), []int{0}, false},
		{plain(2000, 1, 2000), []int{0}, true},
		{plain(2000, 1, 1), make([]int, 2000), true},
		{plain(2000, 1, 1), make([]int, 2001), false},
		{plain(2000, 1, 1), make([]int, 1999), false},
	} {
		if ok := askFits(t, c.r, c.row); ok != c.want || isRow(c.r, c.row) != c.want {
			t.Error(c.r, c.row, ok)
		}
	}
}

// Of all lists of pieces, and some numbers that are none, those fit that the oracle says.
func TestFitsRandom(t *testing.T) {
	rng := rand.New(rand.NewSource(71))
	count := 0
	for range 3000 {
		r := randomRidge(rng, small)
		for _, row := range allRows(r) {
			if !askFits(t, r, row) {
				t.Fatal(r, row)
			}
			count++
			if len(row) == 0 {
				continue
			}
			other := slices.Clone(row)
			other[rng.Intn(len(other))] = between(rng, -1, len(r.Pieces))
			rng.Shuffle(len(other), func(i, k int) { other[i], other[k] = other[k], other[i] })
			if askFits(t, r, other) != isRow(r, other) {
				t.Fatal(r, other)
			}
			if len(row) > 1 && askFits(t, r, row[1:]) {
				t.Fatal(r, row)
			}
			if count > 20000 {
				return
			}
		}
	}
	t.Error(count)
}

func TestNeeds(t *testing.T) {
	for _, c := range []struct {
		r         api.Ridge
		row, want []int
		e         api.Errno
	}{
		{example(), []int{0, 2, 3, 1}, []int{1, 1, 1, 1}, api.OK},
		{example(), []int{0, 1, 1}, []int{1, 2, 0, 0}, api.OK},
		{example(), []int{2, 3, 2, 3, 0}, []int{1, 0, 2, 2}, api.OK},
		{example(), []int{2, 1, 3}, nil, api.ErrState},
		{example(), nil, nil, api.ErrState},
		{example(), []int{4}, nil, api.ErrState},
		{api.Ridge{}, nil, nil, api.OK},
		{api.Ridge{}, []int{0}, nil, api.ErrState},
		{changed(func(r *api.Ridge) { r.Length = 0 }), nil, []int{0, 0, 0, 0}, api.OK},
		{plain(2000, 2, 1), slices.Repeat([]int{1}, 2000), []int{0, 2000}, api.OK},
		{changed(func(r *api.Ridge) { r.Start = -1 }), []int{0, 1, 1}, nil, api.ErrArg},
	} {
		if l, e := ridge.Needs(c.r, c.row); e != c.e || !slices.Equal(l, c.want) {
			t.Error(c.r, c.row, l, e)
		}
	}
}

func TestNeedsRandom(t *testing.T) {
	rng := rand.New(rand.NewSource(72))
	for range 500 {
		r := randomRidge(rng, small)
		for _, row := range allRows(r) {
			l, e := ridge.Needs(r, row)
			if e != api.OK || len(l) != len(r.Pieces) {
				t.Fatal(r, row, l, e)
			}
			var again []int
			for i, n := range l {
				again = append(again, slices.Repeat([]int{i}, n)...)
			}
			if !slices.Equal(again, slices.Sorted(slices.Values(row))) {
				t.Fatal(r, row, l)
			}
		}
	}
}

// Neither Fits nor Needs asks how many other rows fit.
func TestFitsOfVeryMany(t *testing.T) {
	r := overfull()
	row := make([]int, 15)
	if ok, e := ridge.Fits(r, row); !ok || e != api.OK {
		t.Error(ok, e)
	}
	if l, e := ridge.Needs(r, row); e != api.OK || !slices.Equal(l, []int{15, 0, 0, 0, 0, 0, 0, 0}) {
		t.Error(l, e)
	}
}
