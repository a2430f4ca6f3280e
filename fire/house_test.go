package fire_test

import (
	"math"
	"math/rand"
	"slices"
	"strconv"
	"testing"

	"thatch/api"
	"thatch/fire"
	"thatch/roof"
)

// P9.5 (House).

// face rises by 1 for each 1 and has the height 300 at foot; its corners are coordinates by twos.
func face(name string, side api.Side, foot int, corners ...int) api.Face {
	f := api.Face{Name: name, Side: side, Foot: foot, Base: 300, Rise: 1, Run: 1}
	for i := 0; i < len(corners); i += 2 {
		f.Corners = append(f.Corners, api.At{X: corners[i], Y: corners[i+1]})
	}
	return f
}

func faces(list ...api.Face) api.Roof { return api.Roof{Faces: list} }

// house is two faces that meet at a ridge.
func house() api.Roof {
	return faces(face("s", api.SiSouth, 0, 0, 0, 100, 0, 100, 40, 0, 40), face("n", api.SiNorth, 80, 100, 80, 0, 80, 0, 40, 100, 40))
}

// hipped is a house with a ridge, four hips and eaves all around.
func hipped() api.Roof {
	return faces(
		face("s", api.SiSouth, 0, 0, 0, 60, 0, 40, 20, 20, 20),
		face("e", api.SiEast, 60, 60, 0, 60, 40, 40, 20),
		face("n", api.SiNorth, 40, 60, 40, 0, 40, 20, 20, 40, 20),
		face("w", api.SiWest, 0, 0, 40, 0, 0, 20, 20),
	)
}

// pit is four faces that fall to their middle, with a valley between each two of them.
func pit() api.Roof {
	return faces(
		face("s", api.SiNorth, 10, 0, 0, 20, 0, 10, 10),
		face("e", api.SiWest, 10, 20, 0, 20, 20, 10, 10),
		face("n", api.SiSouth, 10, 20, 20, 0, 20, 10, 10),
		face("w", api.SiEast, 10, 0, 20, 0, 0, 10, 10),
	)
}

// row is a low face, and others that fall to the south, too: one that goes on as it does, a steeper one, and one that is higher.
func row() api.Roof {
	r := faces(
		face("a", api.SiSouth, 0, 0, 0, 10, 0, 10, 10, 0, 10),
		face("seam", api.SiSouth, 0, 0, 10, 10, 10, 10, 20, 0, 20),
		face("break", api.SiSouth, 20, 0, 20, 10, 20, 10, 30, 0, 30),
		face("step", api.SiSouth, 30, 0, 30, 10, 30, 10, 40, 0, 40),
	)
	r.Faces[2].Base, r.Faces[2].Rise = 320, 2
	r.Faces[3].Base = 999
	return r
}

// comb is a roof with pairs of faces that share so many edges each.
func comb(counts ...int) api.Roof {
	var r api.Roof
	for i, count := range counts {
		x := 20 * i
		low := face("low-"+strconv.Itoa(i), api.SiSouth, 0, x, 0, x+count, 0)
		high := face("high-"+strconv.Itoa(i), api.SiSouth, 0, x+count, 20, x, 20)
		for k := range count + 1 {
			low.Corners = append(low.Corners, api.At{X: x + count - k, Y: 10})
			high.Corners = append(high.Corners, api.At{X: x + k, Y: 10})
		}
		r.Faces = append(r.Faces, low, high)
	}
	return r
}

func TestHouse(t *testing.T) {
	lone := house()
	lone.Faces[1].Foot = 90
	lone.Faces[1].Corners = []api.At{{X: 100, Y: 90}, {X: 0, Y: 90}, {X: 0, Y: 50}, {X: 100, Y: 50}}
	opened := house()
	opened.Opens = []api.Open{{Name: "stack", Face: 0, Low: api.At{X: 10, Y: 10}, High: api.At{X: 20, Y: 30}}}
	across, up, down := api.Span{Low: 14, High: 21}, api.Span{Low: 10, High: 15}, api.Span{Low: 2, High: 3}
	for _, c := range []struct {
		name  string
		r     api.Roof
		sites []string
		paths []api.Path
	}{
		{"nothing", api.Roof{}, nil, nil},
		{"a ridge", house(), []string{"s", "n"}, []api.Path{{From: 0, To: 1, Time: up}, {From: 1, To: 0, Time: up}}},
		{"openings do not matter", opened, []string{"s", "n"}, []api.Path{{From: 0, To: 1, Time: up}, {From: 1, To: 0, Time: up}}},
		{"nothing beside each other", lone, []string{"s", "n"}, nil},
		{"hips and a ridge", hipped(), []string{"s", "e", "n", "w"}, []api.Path{
			{From: 0, To: 1, Time: up}, {From: 0, To: 2, Time: up}, {From: 0, To: 3, Time: up},
			{From: 1, To: 2, Time: up}, {From: 1, To: 0, Time: up},
			{From: 2, To: 3, Time: up}, {From: 2, To: 0, Time: up}, {From: 2, To: 1, Time: up},
			{From: 3, To: 0, Time: up}, {From: 3, To: 2, Time: up},
		}},
		{"valleys", pit(), []string{"s", "e", "n", "w"}, []api.Path{
			{From: 0, To: 1, Time: down}, {From: 0, To: 3, Time: down}, {From: 1, To: 2, Time: down}, {From: 1, To: 0, Time: down},
			{From: 2, To: 3, Time: down}, {From: 2, To: 1, Time: down}, {From: 3, To: 0, Time: down}, {From: 3, To: 2, Time: down},
		}},
		{"a seam, a break and a step", row(), []string{"a", "seam", "break", "step"}, []api.Path{
			{From: 0, To: 1, Time: across}, {From: 1, To: 0, Time: across}, {From: 1, To: 2, Time: across},
			{From: 2, To: 1, Time: across}, {From: 2, To: 3, Time: across}, {From: 3, To: 2, Time: across},
		}},
		{"some edges between the same faces", comb(2), []string{"low-0", "high-0"}, []api.Path{
			{From: 0, To: 1, Time: across}, {From: 0, To: 1, Time: across}, {From: 1, To: 0, Time: across}, {From: 1, To: 0, Time: across},
		}},
	} {
		g, e := fire.House(c.r, api.Span{Low: 2, High: 3}, 1, 5, 7)
		if e != api.OK || !sameGround(g, api.Ground{Sites: c.sites, Paths: c.paths}) {
			t.Error(c.name, g, e)
		}
	}
}

func TestHouseErrors(t *testing.T) {
	bad := house()
	bad.Faces[1].Name = "s"
	good := api.Span{Low: 2, High: 3}
	for _, c := range []struct {
		name             string
		r                api.Roof
		over             api.Span
		down, up, across int
		want             api.Errno
	}{
		{"as it is", house(), good, 1, 5, 7, api.OK},
		{"the least of all", house(), api.Span{Low: 1, High: 1}, 1, 1, 1, api.OK},
		{"the greatest of all", house(), api.Span{Low: 100, High: 100}, 100, 100, 100, api.OK},
		{"a bad roof", bad, good, 1, 5, 7, api.ErrTwice},
		{"a bad roof, and all else", bad, api.Span{}, 0, 0, 0, api.ErrTwice},
		{"too many faces", api.Roof{Faces: make([]api.Face, 17)}, good, 1, 5, 7, api.ErrLimit},
		{"over from 0", house(), api.Span{Low: 0, High: 3}, 1, 5, 7, api.ErrArg},
		{"over to 101", house(), api.Span{Low: 2, High: 101}, 1, 5, 7, api.ErrArg},
		{"over backward", house(), api.Span{Low: 3, High: 2}, 1, 5, 7, api.ErrArg},
		{"over all", house(), api.Span{Low: math.MinInt, High: math.MaxInt}, 1, 5, 7, api.ErrArg},
		{"down 0", house(), good, 0, 5, 7, api.ErrArg},
		{"down 101", house(), good, 101, 5, 7, api.ErrArg},
		{"up 0", house(), good, 1, 0, 7, api.ErrArg},
		{"up 101", house(), good, 1, 101, 7, api.ErrArg},
		{"across 0", house(), good, 1, 5, 0, api.ErrArg},
		{"across 101", house(), good, 1, 5, 101, api.ErrArg},
		{"the greatest down", house(), good, math.MaxInt, 5, 7, api.ErrArg},
		{"the least up", house(), good, 1, math.MinInt, 7, api.ErrArg},
		{"no faces, and across", api.Roof{}, good, 1, 5, -1, api.ErrArg},
		{"64 paths", comb(9, 9, 9, 5), good, 1, 5, 7, api.OK},
		{"66 paths", comb(9, 9, 9, 6), good, 1, 5, 7, api.ErrLimit},
		{"144 paths", comb(9, 9, 9, 9, 9, 9, 9, 9), good, 1, 5, 7, api.ErrLimit},
		{"66 paths, and up", comb(9, 9, 9, 6), good, 1, 0, 7, api.ErrArg},
	} {
		g, e := fire.House(c.r, c.over, c.down, c.up, c.across)
		if e != c.want || e != api.OK && !sameGround(g, api.Ground{}) {
			t.Error(c.name, g, e)
		}
		if check := fire.Check(g); check != api.OK {
			t.Error(c.name, check)
		}
	}
}

// randomRoof is a roof of squares in a grid, each of which falls to any side.
func randomRoof(rng *rand.Rand) api.Roof {
	var r api.Roof
	for x := range 4 {
		for y := range 4 {
			if rng.Intn(4) == 0 {
				continue
			}
			f := face("f"+strconv.Itoa(len(r.Faces)), api.SiSouth+api.Side(rng.Intn(4)), 10*rng.Intn(5), 10*x, 10*y, 10*x+10, 10*y, 10*x+10, 10*y+10, 10*x, 10*y+10)
			turn := rng.Intn(4)
			f.Corners = slices.Concat(f.Corners[turn:], f.Corners[:turn])
			r.Faces = append(r.Faces, f)
		}
	}
	return r
}

func TestHouseRandom(t *testing.T) {
	rng := rand.New(rand.NewSource(156))
	seen := map[api.EdgeKind]int{}
	for range 500 {
		r := randomRoof(rng)
		low, down, up, across := between(rng, 1, 100), between(rng, 1, 100), between(rng, 1, 100), between(rng, 1, 100)
		over := api.Span{Low: low, High: between(rng, low, 100)}
		edges, e := roof.Edges(r)
		if e != api.OK {
			t.Fatal(r, e)
		}
		var want api.Ground
		for _, f := range r.Faces {
			want.Sites = append(want.Sites, f.Name)
		}
		for _, x := range edges {
			seen[x.Kind]++
			factor := map[api.EdgeKind]int{api.EgValley: down, api.EgRidge: up, api.EgHip: up, api.EgStep: across, api.EgSeam: across, api.EgBreak: across}[x.Kind]
			if factor > 0 {
				want.Paths = append(want.Paths, path(x.Face, x.With, over.Low*factor, over.High*factor))
			}
		}
		g, e := fire.House(r, over, down, up, across)
		if e != api.OK || !sameGround(g, want) {
			t.Fatal(r, over, down, up, across, g, e)
		}
		text, e := fire.Print(g)
		if again, line, f := fire.Parse(text); e != api.OK || f != api.OK || line != 0 || !sameGround(again, g) {
			t.Fatal(g, e, f, again)
		}
	}
	for _, kind := range []api.EdgeKind{api.EgStep, api.EgRidge, api.EgValley, api.EgSeam} {
		if seen[kind] < 100 {
			t.Error(kind, seen)
		}
	}
}
