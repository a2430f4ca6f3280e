package roof_test

import (
	"math/rand"
	"slices"
	"testing"

	"thatch/api"
	"thatch/roof"
)

// P1.4 (Ways, Stands).

func TestWays(t *testing.T) {
	steps := api.Roof{Faces: []api.Face{ // from the west to the east, each falls to the east
		plane("a", api.SiEast, 60, 0, 0, 20, 0, 20, 20, 0, 20),
		plane("b", api.SiEast, 59, 20, 0, 40, 0, 40, 20, 20, 20),
		plane("c", api.SiEast, 61, 40, 0, 60, 0, 60, 20, 40, 20),
	}}
	aslant := api.Roof{Faces: []api.Face{ // as high as the other one at one end of the edge, below it or above it at the other
		plane("a", api.SiEast, 40, 0, 0, 20, 0, 20, 20, 0, 20),
		plane("b", api.SiSouth, 0, 20, 0, 40, 0, 40, 20, 20, 20),
	}}
	aslant.Faces[1].Base = 20
	over := copyRoof(aslant)
	over.Faces[1].Base = 0
	corner := api.Roof{Faces: []api.Face{plane("a", api.SiSouth, 0, 10, 0, 20, 10, 10, 20, 0, 10)}}
	for _, c := range []struct {
		name string
		r    api.Roof
		want []api.Way
	}{
		{"no faces", api.Roof{}, nil},
		{"house", house(), []api.Way{{Face: 0, Edge: 0, Kind: api.WaOff}, {Face: 1, Edge: 0, Kind: api.WaOff}}},
		{"hipped", hipped(), []api.Way{{Face: 0, Edge: 0, Kind: api.WaOff}, {Face: 1, Edge: 0, Kind: api.WaOff}, {Face: 2, Edge: 0, Kind: api.WaOff}, {Face: 3, Edge: 0, Kind: api.WaOff}}},
		{"pit", pit(), []api.Way{
			{Face: 0, Edge: 1, Kind: api.WaValley}, {Face: 0, Edge: 2, Kind: api.WaValley}, {Face: 1, Edge: 1, Kind: api.WaValley}, {Face: 1, Edge: 2, Kind: api.WaValley},
			{Face: 2, Edge: 1, Kind: api.WaValley}, {Face: 2, Edge: 2, Kind: api.WaValley}, {Face: 3, Edge: 1, Kind: api.WaValley}, {Face: 3, Edge: 2, Kind: api.WaValley},
		}},
		{"steps", steps, []api.Way{{Face: 0, Edge: 1, Kind: api.WaOver}, {Face: 1, Edge: 1, Kind: api.WaStand}, {Face: 2, Edge: 1, Kind: api.WaOff}}},
		{"a step as high at one end, below at the other", aslant, []api.Way{{Face: 0, Edge: 1, Kind: api.WaStand}, {Face: 1, Edge: 0, Kind: api.WaOff}}},
		{"a step as high at one end, above at the other", over, []api.Way{{Face: 0, Edge: 1, Kind: api.WaOver}, {Face: 1, Edge: 0, Kind: api.WaOff}}},
		{"two edges that are not straight below", corner, []api.Way{{Face: 0, Edge: 0, Kind: api.WaOff}, {Face: 0, Edge: 3, Kind: api.WaOff}}},
	} {
		if l, e := roof.Ways(c.r); e != api.OK || !slices.Equal(l, c.want) {
			t.Errorf("%s: %v, %d", c.name, l, e)
		}
	}
	aslant.Faces[0].Corners = nil
	if l, e := roof.Ways(aslant); e != api.ErrArg || l != nil {
		t.Error(l, e)
	}
}

// How water goes from a face with the height 20 over the edge to a face that is a little higher or lower there.
func TestWaysByALittle(t *testing.T) {
	for _, c := range []struct {
		base, foot, rise, run int // of the face beyond, which falls to the east
		want                  api.WayKind
	}{
		{20, 20, 1, 1, api.WaOver}, {19, 20, 1, 1, api.WaOver}, {21, 20, 1, 1, api.WaStand},
		{20, 21, 1, 100, api.WaStand}, {20, 19, 1, 100, api.WaOver}, {20, 21, 1, 3, api.WaStand}, {20, 19, 1, 3, api.WaOver},
		{0, 59, 1, 2, api.WaOver}, {0, 60, 1, 2, api.WaOver}, {0, 61, 1, 2, api.WaStand},
	} {
		r := api.Roof{Faces: []api.Face{
			{Name: "a", Side: api.SiEast, Foot: 60, Rise: 1, Run: 2, Corners: points(0, 0, 20, 0, 20, 20, 0, 20)},
			{Name: "b", Side: api.SiEast, Foot: c.foot, Base: c.base, Rise: c.rise, Run: c.run, Corners: points(20, 0, 40, 0, 40, 20, 20, 20)},
		}}
		if l, e := roof.Ways(r); e != api.OK || len(l) != 2 || l[0] != (api.Way{Face: 0, Edge: 1, Kind: c.want}) {
			t.Error(c, l, e)
		}
	}
	thirds := api.Roof{Faces: []api.Face{ // 20/3 and 13/2, and the other way around
		{Name: "a", Side: api.SiEast, Foot: 40, Rise: 1, Run: 3, Corners: points(0, 0, 20, 0, 20, 20, 0, 20)},
		{Name: "b", Side: api.SiEast, Foot: 33, Rise: 1, Run: 2, Corners: points(20, 0, 40, 0, 40, 20, 20, 20)},
		{Name: "c", Side: api.SiWest, Foot: 7, Rise: 1, Run: 2, Corners: points(20, 20, 40, 20, 40, 40, 20, 40)},
		{Name: "d", Side: api.SiEast, Foot: 40, Rise: 1, Run: 3, Corners: points(0, 20, 20, 20, 20, 40, 0, 40)},
	}}
	l, e := roof.Ways(thirds)
	if e != api.OK || l[0] != (api.Way{Face: 0, Edge: 1, Kind: api.WaOver}) || !slices.Contains(l, api.Way{Face: 2, Edge: 3, Kind: api.WaStand}) {
		t.Error(l, e)
	}
}

func standsOf(t *testing.T, name string, r api.Roof, want ...int) {
	t.Helper()
	if l, e := roof.Stands(r); e != api.OK || !slices.Equal(l, want) {
		t.Errorf("%s: %v, %d", name, l, e)
	}
}

func TestStandsAtValleys(t *testing.T) {
	standsOf(t, "no faces", api.Roof{})
	standsOf(t, "house", house())
	standsOf(t, "hipped", hipped())
	standsOf(t, "pit", pit(), 0, 1, 2, 3)
	standsOf(t, "a pit that is as small as it can be", api.Roof{Faces: []api.Face{
		plane("s", api.SiNorth, 1, 0, 0, 2, 0, 1, 1), plane("e", api.SiWest, 1, 2, 0, 2, 2, 1, 1), plane("n", api.SiSouth, 1, 2, 2, 0, 2, 1, 1), plane("w", api.SiEast, 1, 0, 2, 0, 0, 1, 1),
	}}, 0, 1, 2, 3)
	open := pit()
	open.Faces = open.Faces[:3]
	standsOf(t, "a pit without its west, whose middle is at a border", open)
	drained := pit()
	drained.Faces[3].Side = api.SiWest
	standsOf(t, "a pit whose west leads away from its middle", drained)
	stepped := pit()
	stepped.Faces[3].Side, stepped.Faces[3].Foot = api.SiWest, 0
	standsOf(t, "a pit whose west leads away, but is too high at its middle to go over the edge", stepped, 0, 2)
	r := house()
	r.Faces[0].Name = ""
	if l, e := roof.Stands(r); e != api.ErrName || l != nil {
		t.Error(l, e)
	}
}

// A house with a wing to the south: two valleys run from the wing's ridge down to where the eaves meet.
func wing() api.Roof {
	return api.Roof{Faces: []api.Face{
		plane("west", api.SiSouth, 20, 0, 20, 20, 20, 40, 40, 0, 40),
		plane("east", api.SiSouth, 20, 60, 20, 80, 20, 80, 40, 40, 40),
		plane("left", api.SiWest, 20, 20, 0, 40, 0, 40, 40, 20, 20),
		plane("right", api.SiEast, 60, 40, 0, 60, 0, 60, 20, 40, 40),
	}}
}

func TestStandsWing(t *testing.T) {
	standsOf(t, "wing", wing())
	// beside the left valley's end no edge is without a face beside it
	r := wing()
	tower := plane("tower", api.SiEast, 20, 0, 0, 20, 0, 20, 20, 0, 20)
	tower.Base = 500
	r.Faces = append(r.Faces, tower)
	standsOf(t, "beside a tower from which water comes, too", r, 0, 2, 4)
	r.Faces[4].Side = api.SiNorth
	standsOf(t, "beside a tower that leads there", r, 0, 2, 4)
	r.Faces[4].Side = api.SiSouth
	standsOf(t, "beside a tower along whose edge it leads away from there", r, 0, 2)
	r.Faces[4].Base = 0
	standsOf(t, "beside a floor", r)
}

// A valley in two parts, from (60, 60) by (40, 40) to (20, 20), where towers stand all around.
func chain() api.Roof {
	r := api.Roof{Faces: []api.Face{
		plane("a", api.SiWest, 0, 40, 40, 60, 40, 60, 60),
		plane("b", api.SiSouth, 0, 40, 40, 60, 60, 40, 60),
		plane("c", api.SiWest, 0, 20, 20, 40, 20, 40, 40),
		plane("d", api.SiSouth, 0, 20, 20, 40, 40, 20, 40),
		plane("e", api.SiWest, 0, 40, 20, 60, 20, 60, 40, 40, 40),
		plane("f", api.SiSouth, 0, 20, 40, 40, 40, 40, 60, 20, 60),
		plane("left", api.SiEast, 20, 0, 20, 20, 20, 20, 40, 0, 40),
		plane("below", api.SiNorth, 20, 20, 0, 40, 0, 40, 20, 20, 20),
		plane("corner", api.SiNorth, 20, 0, 0, 20, 0, 20, 20, 0, 20),
	}}
	for i := 6; i < 9; i++ {
		r.Faces[i].Base = 100
	}
	return r
}

func TestStandsChain(t *testing.T) {
	r := chain()
	standsOf(t, "closed", r, 0, 1, 2, 3, 4, 5, 6, 7, 8)
	r.Faces[8].Side = api.SiSouth
	standsOf(t, "open at the lower end", r)
	r.Faces[8].Side = api.SiNorth
	r.Faces = r.Faces[:8]
	standsOf(t, "without the corner", r)
	// without the lower valley's faces the upper one ends at a border
	r = chain()
	r.Faces = slices.Delete(r.Faces, 2, 4)
	standsOf(t, "without the lower part, but for the corner, which is below what is left of it", r, 6)
	// where the two parts meet a face leads away: it takes water, but the lower part does so, too
	r = chain()
	r.Faces[4].Side = api.SiEast
	standsOf(t, "two ways on", r, 0, 1, 2, 3, 5, 6, 7, 8)
}

func TestWaterAgainstItsWords(t *testing.T) {
	rng := rand.New(rand.NewSource(7))
	kinds := map[api.WayKind]int{}
	standing := 0
	for range 600 {
		r := randomRoof(rng)
		ways := wantWays(r)
		for _, w := range ways {
			kinds[w.Kind]++
		}
		if l, e := roof.Ways(r); e != api.OK || !slices.Equal(l, ways) {
			t.Fatal(r, l, ways, e)
		}
		stands := wantStands(r)
		standing += len(stands)
		if l, e := roof.Stands(r); e != api.OK || !slices.Equal(l, stands) {
			t.Fatal(r, l, stands, e)
		}
	}
	for k := api.WaOff; k <= api.WaStand; k++ {
		if kinds[k] < 100 {
			t.Error("few ways of the kind", k, kinds[k])
		}
	}
	if standing < 100 {
		t.Error("little water stands")
	}
}
