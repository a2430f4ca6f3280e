package roof_test

import (
	"math"
	"math/rand"
	"reflect"
	"strings"
	"testing"

	"thatch/api"
	"thatch/roof"
)

// P0.7, and the rules R1 to R11, for all functions of the package.

// results calls every function that is given a roof.
func results(r api.Roof, face int, p api.At) (list []any, errors []api.Errno) {
	keep := func(e api.Errno, l ...any) {
		list = append(list, l...)
		errors = append(errors, e)
	}
	keep(roof.Check(r))
	edges, e := roof.Edges(r)
	keep(e, edges)
	height, e := roof.Height(r, face, p)
	keep(e, height)
	faces, open, e := roof.Where(r, p)
	keep(e, faces, open)
	areas, e := roof.Areas(r)
	keep(e, areas)
	area, e := roof.Lay(r, face)
	keep(e, area)
	ways, e := roof.Ways(r)
	keep(e, ways)
	stands, e := roof.Stands(r)
	keep(e, stands)
	text, e := roof.Print(r)
	keep(e, text)
	return list, errors
}

var strange = []int{math.MinInt, math.MinInt + 1, -1 << 62, -1 << 31, -101, -1, 0, 1, 2, 3, 4, 9, 10, 50, 100, 101, 9999, 10000, 10001, 1 << 31, 1 << 32, 1<<62 + 1, math.MaxInt}

func anyInt(rng *rand.Rand) int { return strange[rng.Intn(len(strange))] }

// spoil changes one thing of a roof to anything.
func spoil(rng *rand.Rand, r *api.Roof) {
	names := []string{"", "a", "s", "-", "A", "\xff", "ö", strings.Repeat("a", 17), strings.Repeat("a", 1<<16)}
	if len(r.Faces) > 0 {
		f := &r.Faces[rng.Intn(len(r.Faces))]
		switch rng.Intn(9) {
		case 0:
			f.Name = names[rng.Intn(len(names))]
		case 1:
			f.Side = api.Side(anyInt(rng))
		case 2:
			f.Foot = anyInt(rng)
		case 3:
			f.Base = anyInt(rng)
		case 4:
			f.Rise = anyInt(rng)
		case 5:
			f.Run = anyInt(rng)
		case 6:
			f.Corners = f.Corners[:rng.Intn(len(f.Corners)+1)]
		case 7:
			f.Corners = append(f.Corners, make([]api.At, anyInt(rng)&15)...)
		}
		if len(f.Corners) > 0 && rng.Intn(3) == 0 {
			f.Corners[rng.Intn(len(f.Corners))] = at(anyInt(rng), anyInt(rng))
		}
	}
	switch rng.Intn(4) {
	case 0:
		r.Opens = append(r.Opens, open(names[rng.Intn(len(names))], anyInt(rng)&3, anyInt(rng), anyInt(rng), anyInt(rng), anyInt(rng)))
	case 1:
		r.Faces = append(r.Faces, api.Face{Name: "x", Side: api.SiSouth, Rise: 1, Run: 1, Corners: []api.At{at(anyInt(rng), anyInt(rng)), at(anyInt(rng), anyInt(rng)), at(anyInt(rng), anyInt(rng))}})
	}
}

func TestAnyRoof(t *testing.T) {
	rng := rand.New(rand.NewSource(16))
	seen := map[api.Errno]int{}
	for range 2000 {
		r := house()
		if rng.Intn(2) == 0 {
			r = randomRoof(rng)
		}
		for range rng.Intn(3) {
			spoil(rng, &r)
		}
		before := copyRoof(r)
		face, p := anyInt(rng), at(anyInt(rng), anyInt(rng))
		list, errors := results(r, face, p)
		again, errorsAgain := results(r, face, p)
		if !sameRoof(r, before) {
			t.Fatal("changed", before)
		}
		if !reflect.DeepEqual(list, again) || !reflect.DeepEqual(errors, errorsAgain) {
			t.Fatal("not the same again", r)
		}
		first := errors[0]
		seen[first]++
		if first == api.OK {
			continue
		}
		for i, e := range errors {
			if e != first {
				t.Fatal("function", i, "has the error", e, "and not", first, r)
			}
		}
		for i, x := range list {
			if !reflect.ValueOf(x).IsZero() {
				t.Fatal("with an error", i, x)
			}
		}
	}
	for _, e := range []api.Errno{api.OK, api.ErrArg, api.ErrLimit, api.ErrName, api.ErrTwice, api.ErrNone, api.ErrScope, api.ErrClash} {
		if seen[e] == 0 {
			t.Error("no roof with the error", e)
		}
	}
}

func TestManyOfAll(t *testing.T) {
	var r api.Roof
	for range 1 << 16 {
		r.Faces = append(r.Faces, api.Face{})
		r.Opens = append(r.Opens, api.Open{})
	}
	if e := roof.Check(r); e != api.ErrLimit {
		t.Error(e)
	}
	r.Faces = house().Faces
	if e := roof.Check(r); e != api.ErrLimit {
		t.Error(e)
	}
	r.Faces[0].Corners = make([]api.At, 1<<20)
	if e := roof.Check(r); e != api.ErrLimit {
		t.Error(e)
	}
}

func TestAnyText(t *testing.T) {
	rng := rand.New(rand.NewSource(17))
	pieces := []string{"face", "open", "south", "west", " ", " ", " ", "\n", "\n", "a", "s", "0", "1", "9", "-", "10", "\xff", "\x00", "ü", houseText, faceLine, openLine, "face a east 0 0 1 1 0 0 9 0 0 9"}
	for range 20000 {
		text := houseText
		if rng.Intn(2) == 0 {
			text = ""
			for range rng.Intn(30) {
				text += pieces[rng.Intn(len(pieces))]
			}
		} else {
			i, j := rng.Intn(len(text)), rng.Intn(len(text))
			text = text[:min(i, j)] + pieces[rng.Intn(len(pieces))] + text[max(i, j):]
		}
		r, n, e := roof.Parse(text)
		if e != api.OK {
			if r.Faces != nil || r.Opens != nil || n < 0 || n > strings.Count(text, "\n")+1 {
				t.Fatalf("%q: %v %d %d", text, r, n, e)
			}
			continue
		}
		if s, e := roof.Print(r); e != api.OK || n != 0 || s != text && s != text+"\n" {
			t.Fatalf("%q: %q %d %d", text, s, n, e)
		}
	}
}

// What is returned shares no memory with the roof, nor with what another call returns.
func TestNewMemory(t *testing.T) {
	r := house()
	for range 2 {
		edges, _ := roof.Edges(r)
		faces, _, _ := roof.Where(r, at(50, 40))
		areas, _ := roof.Areas(r)
		laid, _ := roof.Lay(r, 0)
		ways, _ := roof.Ways(r)
		stands, _ := roof.Stands(pit())
		list, _ := results(r, 0, at(50, 40))
		clear(edges)
		clear(faces)
		clear(areas)
		clear(laid.Outline)
		clear(laid.Holes)
		clear(ways)
		clear(stands)
		if again, _ := results(r, 0, at(50, 40)); !sameRoof(r, house()) || !reflect.DeepEqual(list, again) {
			t.Error(r)
		}
	}
}

// A nil list and an empty one are the same.
func TestNilAndEmpty(t *testing.T) {
	empty := api.Roof{Faces: []api.Face{}, Opens: []api.Open{}}
	list, errors := results(empty, 0, at(0, 0))
	other, otherErrors := results(api.Roof{}, 0, at(0, 0))
	if !reflect.DeepEqual(list, other) || !reflect.DeepEqual(errors, otherErrors) {
		t.Error(list, other)
	}
}
