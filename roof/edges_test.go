package roof_test

import (
	"math"
	"math/rand"
	"slices"
	"testing"

	"thatch/api"
	"thatch/roof"
)

// P1.2 (Edges, Height, Where).

func alone(face, number int, kind api.EdgeKind) api.Edge {
	return api.Edge{Face: face, Number: number, Kind: kind, With: -1, At: -1}
}

func wantEdgesOf(t *testing.T, name string, r api.Roof, want []api.Edge) {
	t.Helper()
	if l, e := roof.Edges(r); e != api.OK || !slices.Equal(l, want) {
		t.Errorf("%s: %v, %d", name, l, e)
	}
}

func TestEdges(t *testing.T) {
	wantEdgesOf(t, "no faces", api.Roof{}, nil)
	wantEdgesOf(t, "house", house(), []api.Edge{
		alone(0, 0, api.EgEave), alone(0, 1, api.EgVerge), {Face: 0, Number: 2, Kind: api.EgRidge, With: 1, At: 2}, alone(0, 3, api.EgVerge),
		alone(1, 0, api.EgEave), alone(1, 1, api.EgVerge), {Face: 1, Number: 2, Kind: api.EgRidge, With: 0, At: 2}, alone(1, 3, api.EgVerge),
	})
	wantEdgesOf(t, "hipped", hipped(), []api.Edge{
		alone(0, 0, api.EgEave), {Face: 0, Number: 1, Kind: api.EgHip, With: 1, At: 2}, {Face: 0, Number: 2, Kind: api.EgRidge, With: 2, At: 2}, {Face: 0, Number: 3, Kind: api.EgHip, With: 3, At: 1},
		alone(1, 0, api.EgEave), {Face: 1, Number: 1, Kind: api.EgHip, With: 2, At: 3}, {Face: 1, Number: 2, Kind: api.EgHip, With: 0, At: 1},
		alone(2, 0, api.EgEave), {Face: 2, Number: 1, Kind: api.EgHip, With: 3, At: 2}, {Face: 2, Number: 2, Kind: api.EgRidge, With: 0, At: 2}, {Face: 2, Number: 3, Kind: api.EgHip, With: 1, At: 1},
		alone(3, 0, api.EgEave), {Face: 3, Number: 1, Kind: api.EgHip, With: 0, At: 3}, {Face: 3, Number: 2, Kind: api.EgHip, With: 2, At: 1},
	})
	wantEdgesOf(t, "pit", pit(), []api.Edge{
		alone(0, 0, api.EgTop), {Face: 0, Number: 1, Kind: api.EgValley, With: 1, At: 2}, {Face: 0, Number: 2, Kind: api.EgValley, With: 3, At: 1},
		alone(1, 0, api.EgTop), {Face: 1, Number: 1, Kind: api.EgValley, With: 2, At: 2}, {Face: 1, Number: 2, Kind: api.EgValley, With: 0, At: 1},
		alone(2, 0, api.EgTop), {Face: 2, Number: 1, Kind: api.EgValley, With: 3, At: 2}, {Face: 2, Number: 2, Kind: api.EgValley, With: 1, At: 1},
		alone(3, 0, api.EgTop), {Face: 3, Number: 1, Kind: api.EgValley, With: 0, At: 2}, {Face: 3, Number: 2, Kind: api.EgValley, With: 2, At: 1},
	})
}

// Two squares side by side, that meet at x = 20; the one to the left falls to the east, with the height 20 there.
func TestEdgeBetween(t *testing.T) {
	left := plane("a", api.SiEast, 40, 0, 0, 20, 0, 20, 20, 0, 20)
	for _, c := range []struct {
		name      string
		side      api.Side
		foot      int
		base      int
		rise, run int
		want      api.EdgeKind
	}{
		{"one plane", api.SiEast, 40, 0, 1, 1, api.EgSeam},
		{"the same plane, with other numbers", api.SiEast, 50, 20, 3, 3, api.EgStep},
		{"the same plane, from another line", api.SiEast, 30, 10, 7, 7, api.EgSeam},
		{"falls on, steeper", api.SiEast, 30, 0, 2, 1, api.EgBreak},
		{"falls on, less steep", api.SiEast, 60, 0, 1, 2, api.EgBreak},
		{"rises again", api.SiWest, 0, 0, 1, 1, api.EgValley},
		{"rises again, steeper", api.SiWest, 20, 20, 100, 1, api.EgValley},
		{"one higher", api.SiWest, 0, 1, 1, 1, api.EgStep},
		{"along", api.SiSouth, 0, 20, 1, 1, api.EgStep},
		{"along, as high at one end", api.SiNorth, 20, 20, 1, 1, api.EgStep},
	} {
		right := api.Face{Name: "b", Side: c.side, Foot: c.foot, Base: c.base, Rise: c.rise, Run: c.run, Corners: points(20, 0, 40, 0, 40, 20, 20, 20)}
		l, e := roof.Edges(api.Roof{Faces: []api.Face{left, right}})
		if e != api.OK || len(l) != 8 || l[1] != (api.Edge{Face: 0, Number: 1, Kind: c.want, With: 1, At: 3}) || l[7] != (api.Edge{Face: 1, Number: 3, Kind: c.want, With: 0, At: 1}) {
			t.Errorf("%s: %v, %d", c.name, l, e)
		}
	}
}

// Edges that are not level, or along which a face neither rises nor falls.
func TestEdgeSloping(t *testing.T) {
	for _, c := range []struct {
		name string
		a, b api.Face
		want api.EdgeKind
	}{
		{"hip", plane("a", api.SiSouth, 0, 0, 0, 20, 0, 20, 20), plane("b", api.SiWest, 0, 0, 0, 20, 20, 0, 20), api.EgHip},
		{"valley", plane("a", api.SiWest, 0, 0, 0, 20, 0, 20, 20), plane("b", api.SiSouth, 0, 0, 0, 20, 20, 0, 20), api.EgValley},
		{"both along", plane("a", api.SiSouth, 0, 0, 0, 20, 0, 20, 20, 0, 20), plane("b", api.SiSouth, 0, 20, 0, 40, 0, 40, 20, 20, 20), api.EgSeam},
		{"a seam across", plane("a", api.SiSouth, 0, 0, 0, 20, 0, 20, 20), plane("b", api.SiSouth, 0, 0, 0, 20, 20, 0, 20), api.EgSeam},
		{"a step at one end", plane("a", api.SiSouth, 0, 0, 0, 20, 0, 20, 10), plane("b", api.SiWest, 0, 0, 0, 20, 10, 0, 20), api.EgStep},
		{"a hip of one to two", slope(plane("a", api.SiSouth, 0, 0, 0, 40, 0, 40, 20), 2, 1), plane("b", api.SiWest, 0, 0, 0, 40, 20, 0, 20), api.EgHip},
		{"a hip of three to one", slope(plane("a", api.SiSouth, 0, 0, 0, 10, 0, 10, 30), 1, 3), plane("b", api.SiWest, 0, 0, 0, 10, 30, 0, 30), api.EgHip},
		{"a valley between what falls to the east and to the south", plane("a", api.SiEast, 20, 0, 0, 20, 0, 0, 20), plane("b", api.SiSouth, 0, 20, 0, 20, 20, 0, 20), api.EgValley},
	} {
		l, e := roof.Edges(api.Roof{Faces: []api.Face{c.a, c.b}})
		kinds := map[api.EdgeKind]int{}
		for _, x := range l {
			if x.With >= 0 {
				kinds[x.Kind]++
			}
		}
		if e != api.OK || len(kinds) != 1 || kinds[c.want] != 2 {
			t.Errorf("%s: %v, %d", c.name, l, e)
		}
	}
}

func slope(f api.Face, rise, run int) api.Face {
	f.Rise, f.Run = rise, run
	return f
}

func TestEdgesAgainstTheirWords(t *testing.T) {
	rng := rand.New(rand.NewSource(3))
	kinds := map[api.EdgeKind]int{}
	for range 400 {
		r := randomRoof(rng)
		want := wantEdges(r)
		for _, w := range want {
			kinds[w.Kind]++
		}
		if l, e := roof.Edges(r); e != api.OK || !slices.Equal(l, want) {
			t.Fatal(r, l, want, e)
		}
	}
	for k := api.EgEave; k <= api.EgBreak; k++ {
		if kinds[k] < 10 {
			t.Error("few edges of the kind", k, kinds[k])
		}
	}
}

func TestHeight(t *testing.T) {
	r := api.Roof{Faces: []api.Face{
		{Name: "s", Side: api.SiSouth, Foot: 10, Base: 5, Rise: 2, Run: 3, Corners: points(0, 0, 10, 0, 10, 10, 0, 10)},
		{Name: "e", Side: api.SiEast, Foot: 20, Base: 0, Rise: 4, Run: 6, Corners: points(10, 0, 20, 0, 20, 10, 10, 10)},
		{Name: "n", Side: api.SiNorth, Foot: 0, Base: 10000, Rise: 100, Run: 1, Corners: points(0, 10, 10, 10, 10, 20, 0, 20)},
		{Name: "w", Side: api.SiWest, Foot: 10000, Base: 1, Rise: 1, Run: 100, Corners: points(10, 10, 20, 10, 20, 20, 10, 20)},
	}}
	for _, c := range []struct {
		face     int
		p        api.At
		num, den int
	}{
		{0, at(7, 10), 5, 1}, {0, at(7, 11), 17, 3}, {0, at(9999, 13), 7, 1}, {0, at(0, 0), -5, 3},
		{1, at(20, 7), 0, 1}, {1, at(19, 7), 2, 3}, {1, at(17, 7), 2, 1}, {1, at(10000, 0), -19960, 3},
		{2, at(3, 0), 10000, 1}, {2, at(3, 10000), -990000, 1}, {2, at(3, 100), 0, 1},
		{3, at(10000, 3), 1, 1}, {3, at(9900, 3), 0, 1}, {3, at(0, 10000), -99, 1}, {3, at(9985, 10000), 17, 20},
	} {
		if h, e := roof.Height(r, c.face, c.p); e != api.OK || h != (api.Ratio{Num: c.num, Den: c.den}) {
			t.Error(c, h, e)
		}
	}
}

func TestHeightAgainstItsWords(t *testing.T) {
	rng := rand.New(rand.NewSource(4))
	for range 300 {
		r := randomRoof(rng)
		if len(r.Faces) == 0 {
			continue
		}
		i := rng.Intn(len(r.Faces))
		p := at(rng.Intn(roofSize), rng.Intn(roofSize))
		r.Faces[i].Rise, r.Faces[i].Run = 1+rng.Intn(100), 1+rng.Intn(100)
		want := height(r.Faces[i], p)
		h, e := roof.Height(r, i, p)
		if e != api.OK || int64(h.Num) != want.Num().Int64() || int64(h.Den) != want.Denom().Int64() {
			t.Fatal(r.Faces[i], p, h, want, e)
		}
	}
}

func TestHeightErrors(t *testing.T) {
	wrong := house()
	wrong.Faces[0].Name = ""
	for _, c := range []struct {
		r    api.Roof
		face int
		p    api.At
		want api.Errno
	}{
		{wrong, 7, at(-1, 0), api.ErrName},
		{house(), -1, at(-1, 0), api.ErrNone},
		{house(), 2, at(-1, 0), api.ErrNone},
		{house(), math.MinInt, at(0, 0), api.ErrNone},
		{api.Roof{}, 0, at(0, 0), api.ErrNone},
		{house(), 1, at(-1, 0), api.ErrArg},
		{house(), 1, at(0, -1), api.ErrArg},
		{house(), 1, at(10001, 0), api.ErrArg},
		{house(), 1, at(0, 10001), api.ErrArg},
		{house(), 1, at(math.MinInt, math.MaxInt), api.ErrArg},
	} {
		if h, e := roof.Height(c.r, c.face, c.p); e != c.want || h != (api.Ratio{}) {
			t.Error(c.face, c.p, h, e)
		}
	}
}

func TestWhere(t *testing.T) {
	for _, c := range []struct {
		p     api.At
		faces []int
		open  int
	}{
		{at(50, 40), []int{0, 1}, -1}, {at(0, 40), []int{0, 1}, -1}, {at(0, 0), []int{0}, -1}, {at(100, 80), []int{1}, -1},
		{at(15, 20), []int{0}, 0}, {at(11, 11), []int{0}, 0}, {at(19, 29), []int{0}, 0},
		{at(10, 20), []int{0}, -1}, {at(20, 20), []int{0}, -1}, {at(15, 10), []int{0}, -1}, {at(15, 30), []int{0}, -1}, {at(10, 10), []int{0}, -1},
		{at(100, 100), nil, -1}, {at(101, 40), nil, -1}, {at(50, 81), nil, -1}, {at(10000, 10000), nil, -1},
	} {
		if l, n, e := roof.Where(house(), c.p); e != api.OK || !slices.Equal(l, c.faces) || n != c.open {
			t.Error(c.p, l, n, e)
		}
	}
	if l, n, e := roof.Where(pit(), at(10, 10)); e != api.OK || !slices.Equal(l, []int{0, 1, 2, 3}) || n != -1 {
		t.Error(l, n, e)
	}
	r := house()
	r.Opens = append(r.Opens, open("b", 1, 10, 50, 20, 60))
	if l, n, e := roof.Where(r, at(11, 51)); e != api.OK || !slices.Equal(l, []int{1}) || n != 1 {
		t.Error(l, n, e)
	}
	for _, p := range []api.At{at(-1, 0), at(0, -1), at(10001, 0), at(0, 10001), at(math.MaxInt, math.MinInt)} {
		if l, n, e := roof.Where(r, p); e != api.ErrArg || l != nil || n != 0 {
			t.Error(p, l, n, e)
		}
	}
	r.Faces[0].Rise = 0
	if l, n, e := roof.Where(r, at(-1, 0)); e != api.ErrArg || l != nil || n != 0 {
		t.Error(l, n, e)
	}
	r.Faces[0].Name = ""
	if l, n, e := roof.Where(r, at(-1, 0)); e != api.ErrName || l != nil || n != 0 {
		t.Error(l, n, e)
	}
}

// A point is on a face if the triangles from it to the edges are together no larger than the face.
func TestWhereAgainstTriangles(t *testing.T) {
	rng := rand.New(rand.NewSource(5))
	for range 200 {
		r := randomRoof(rng)
		for range 30 {
			p := at(rng.Intn(roofSize+1), rng.Intn(roofSize+1))
			var want []int
			for i, f := range r.Faces {
				whole, parts := 0, 0
				for _, e := range sides(f) {
					whole += cross(e[0], e[1])
					part := cross(sub(e[0], p), sub(e[1], p))
					parts += max(part, -part)
				}
				if parts == whole {
					want = append(want, i)
				}
			}
			wantOpen := -1
			for i, o := range r.Opens {
				if min(p.X-o.Low.X, o.High.X-p.X, p.Y-o.Low.Y, o.High.Y-p.Y) > 0 {
					wantOpen = i
				}
			}
			if l, n, e := roof.Where(r, p); e != api.OK || !slices.Equal(l, want) || n != wantOpen {
				t.Fatal(r, p, l, n, e)
			}
		}
	}
}
