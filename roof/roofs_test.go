package roof_test

import (
	"math/rand"
	"reflect"
	"slices"
	"strconv"

	"thatch/api"
)

// Roofs for the tests, and what can be done with them.

func at(x, y int) api.At { return api.At{X: x, Y: y} }

// points takes coordinates by twos.
func points(n ...int) []api.At {
	var list []api.At
	for i := 0; i < len(n); i += 2 {
		list = append(list, at(n[i], n[i+1]))
	}
	return list
}

// plane is a face that rises by 1 for each 1 and has the height 0 at Foot.
func plane(name string, side api.Side, foot int, corners ...int) api.Face {
	return api.Face{Name: name, Side: side, Foot: foot, Rise: 1, Run: 1, Corners: points(corners...)}
}

func house() api.Roof {
	s := plane("s", api.SiSouth, 0, 0, 0, 100, 0, 100, 40, 0, 40)
	n := plane("n", api.SiNorth, 80, 100, 80, 0, 80, 0, 40, 100, 40)
	s.Base, n.Base = 300, 300
	return api.Roof{Faces: []api.Face{s, n}, Opens: []api.Open{{Name: "stack", Low: at(10, 10), High: at(20, 30)}}}
}

const houseText = "face s south 0 300 1 1 0 0 100 0 100 40 0 40\nface n north 80 300 1 1 100 80 0 80 0 40 100 40\nopen stack s 10 10 20 30\n"

// hipped is a house with a ridge, four hips and eaves all around.
func hipped() api.Roof {
	return api.Roof{Faces: []api.Face{
		plane("s", api.SiSouth, 0, 0, 0, 60, 0, 40, 20, 20, 20),
		plane("e", api.SiEast, 60, 60, 0, 60, 40, 40, 20),
		plane("n", api.SiNorth, 40, 60, 40, 0, 40, 20, 20, 40, 20),
		plane("w", api.SiWest, 0, 0, 40, 0, 0, 20, 20),
	}}
}

// pit is four faces that fall to their middle.
func pit() api.Roof {
	return api.Roof{Faces: []api.Face{
		plane("s", api.SiNorth, 10, 0, 0, 20, 0, 10, 10),
		plane("e", api.SiWest, 10, 20, 0, 20, 20, 10, 10),
		plane("n", api.SiSouth, 10, 20, 20, 0, 20, 10, 10),
		plane("w", api.SiEast, 10, 0, 20, 0, 0, 10, 10),
	}}
}

func copyRoof(r api.Roof) api.Roof {
	c := api.Roof{Faces: slices.Clone(r.Faces), Opens: slices.Clone(r.Opens)}
	for i := range c.Faces {
		c.Faces[i].Corners = slices.Clone(c.Faces[i].Corners)
	}
	return c
}

func sameRoof(a, b api.Roof) bool {
	return slices.Equal(a.Opens, b.Opens) && slices.EqualFunc(a.Faces, b.Faces, func(f, g api.Face) bool {
		same := slices.Equal(f.Corners, g.Corners)
		f.Corners, g.Corners = nil, nil
		return same && reflect.DeepEqual(f, g)
	})
}

// moved is a roof all of whose points become others, and whose faces become others, too.
func moved(r api.Roof, point func(api.At) api.At, face func(f *api.Face)) api.Roof {
	c := copyRoof(r)
	for i := range c.Faces {
		for n, p := range c.Faces[i].Corners {
			c.Faces[i].Corners[n] = point(p)
		}
		face(&c.Faces[i])
	}
	for i, o := range c.Opens {
		p, q := point(o.Low), point(o.High)
		c.Opens[i].Low = at(min(p.X, q.X), min(p.Y, q.Y))
		c.Opens[i].High = at(max(p.X, q.X), max(p.Y, q.Y))
	}
	return c
}

// turned is a roof in a square of this size, turned by a quarter, counterclockwise.
func turned(r api.Roof, size int) api.Roof {
	return moved(r, func(p api.At) api.At { return at(size-p.Y, p.X) }, func(f *api.Face) {
		if f.Side == api.SiSouth || f.Side == api.SiNorth {
			f.Foot = size - f.Foot
		}
		f.Side = api.SiSouth + (f.Side-api.SiSouth+1)%4
	})
}

// mirrored is a roof in a square of this size, seen in a mirror; edge n of a face becomes mirrorEdge(n).
func mirrored(r api.Roof, size int) api.Roof {
	return moved(r, func(p api.At) api.At { return at(size-p.X, p.Y) }, func(f *api.Face) {
		slices.Reverse(f.Corners)
		switch f.Side {
		case api.SiEast:
			f.Side, f.Foot = api.SiWest, size-f.Foot
		case api.SiWest:
			f.Side, f.Foot = api.SiEast, size-f.Foot
		}
	})
}

func mirrorEdge(f api.Face, n int) int {
	count := len(f.Corners)
	return (2*count - 2 - n) % count
}

func scaled(r api.Roof, k int) api.Roof {
	return moved(r, func(p api.At) api.At { return at(k*p.X, k*p.Y) }, func(f *api.Face) {
		f.Foot *= k
		f.Base *= k
	})
}

// cells is how the cell of a grid is cut into faces: not at all, by a diagonal, or by both.
func cells(low, high api.At, how int) [][]api.At {
	a, b, c, d := low, at(high.X, low.Y), high, at(low.X, high.Y)
	m := at((low.X+high.X)/2, (low.Y+high.Y)/2)
	switch how {
	case 0:
		return [][]api.At{{a, b, c, d}}
	case 1:
		return [][]api.At{{a, b, c}, {a, c, d}}
	case 2:
		return [][]api.At{{a, b, d}, {b, c, d}}
	default:
		return [][]api.At{{a, b, m}, {b, c, m}, {c, d, m}, {d, a, m}}
	}
}

// roofSize is the square in which random roofs are.
const roofSize = 60

// randomRoof is a roof that may be, of cells of a grid. Most of its faces fit to one of those ahead, so that not all edges are steps.
func randomRoof(rng *rand.Rand) api.Roof {
	var r api.Roof
	const cell = 20
	wide, high := 1+rng.Intn(3), 1+rng.Intn(3)
	for x := range wide {
		for y := range high {
			if rng.Intn(12) == 0 {
				continue
			}
			for _, corners := range cells(at(x*cell, y*cell), at(x*cell+cell, y*cell+cell), rng.Intn(4)) {
				if len(r.Faces) == api.MaxFaces {
					return r
				}
				turn := rng.Intn(len(corners))
				f := api.Face{Name: "f" + strconv.Itoa(len(r.Faces)), Rise: 1, Run: 1, Corners: slices.Concat(corners[turn:], corners[:turn])}
				place(rng, &f, r.Faces)
				r.Faces = append(r.Faces, f)
			}
		}
	}
	r.Opens = randomOpens(rng, r.Faces)
	return r
}

// place tries some ways in which a face may fall, until one edge of it is as high as that of another face.
func place(rng *rand.Rand, f *api.Face, ahead []api.Face) {
	for range 40 {
		f.Side = api.SiSouth + api.Side(rng.Intn(4))
		f.Foot = 10 * rng.Intn(7)
		f.Base = 50 + 10*rng.Intn(4)
		f.Rise, f.Run = 1, 1
		if rng.Intn(3) == 0 {
			f.Rise, f.Run = 1+rng.Intn(2), 1+rng.Intn(2)
		}
		for _, g := range ahead {
			for _, e := range sides(*f) {
				if slices.Contains(sides(g), [2]api.At{e[1], e[0]}) && sameHeights(*f, g, e) {
					return
				}
			}
		}
	}
}

func randomOpens(rng *rand.Rand, faces []api.Face) []api.Open {
	var opens []api.Open
	for i, f := range faces {
		if len(f.Corners) == 4 && len(opens) < api.MaxOpens && rng.Intn(2) == 0 {
			low, high := f.Corners[0], f.Corners[0]
			for _, p := range f.Corners {
				low = at(min(low.X, p.X), min(low.Y, p.Y))
				high = at(max(high.X, p.X), max(high.Y, p.Y))
			}
			x, y := low.X+1+rng.Intn(8), low.Y+1+rng.Intn(8)
			opens = append(opens, api.Open{Name: "o" + strconv.Itoa(i), Face: i, Low: at(x, y), High: at(x+1+rng.Intn(9), y+1+rng.Intn(9))})
		}
	}
	return opens
}
