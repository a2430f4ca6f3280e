package roof_test

import (
	"math/rand"
	"slices"
	"testing"

	"thatch/api"
	"thatch/roof"
)

// P1.6 (what follows).

// between returns some points along an edge of a roof that is scaled by parts.
func between(e [2]api.At, parts int) []api.At {
	var list []api.At
	for i := range parts + 1 {
		list = append(list, at((e[0].X*(parts-i)+e[1].X*i)/parts, (e[0].Y*(parts-i)+e[1].Y*i)/parts))
	}
	return list
}

func TestSameHeightAlongEdges(t *testing.T) {
	rng := rand.New(rand.NewSource(9))
	for range 150 {
		const parts = 4
		r := scaled(randomRoof(rng), parts)
		l, _ := roof.Edges(r)
		for _, x := range l {
			if x.Kind < api.EgRidge {
				continue
			}
			for _, p := range between(sides(r.Faces[x.Face])[x.Number], parts) {
				h, e := roof.Height(r, x.Face, p)
				g, _ := roof.Height(r, x.With, p)
				if e != api.OK || h != g {
					t.Fatal(r, x, p, h, g, e)
				}
			}
		}
	}
}

func TestBothFacesTellTheSame(t *testing.T) {
	rng := rand.New(rand.NewSource(10))
	for range 300 {
		r := randomRoof(rng)
		l, _ := roof.Edges(r)
		first := make([]int, len(r.Faces))
		for i := len(l) - 1; i >= 0; i-- {
			first[l[i].Face] = i
		}
		for _, x := range l {
			if x.With < 0 {
				if x.At != -1 || x.Kind > api.EgTop {
					t.Fatal(r, x)
				}
			} else if y := l[first[x.With]+x.At]; y != (api.Edge{Face: x.With, Number: x.At, Kind: x.Kind, With: x.Face, At: x.Number}) {
				t.Fatal(r, x, y)
			}
		}
	}
}

// A face that is laid has the same area, and is as far up and to the right between any two points.
func TestLaidIsTheSame(t *testing.T) {
	rng := rand.New(rand.NewSource(11))
	for range 200 {
		r := randomRoof(rng)
		areas, _ := roof.Areas(r)
		for i, f := range r.Faces {
			a, e := roof.Lay(r, i)
			if e != api.OK || len(a.Outline) != len(f.Corners) {
				t.Fatal(r, i, a, e)
			}
			up := at(-down(f).X, -down(f).Y)
			right := at(up.Y, -up.X)
			area, low := 0, a.Outline[0]
			for n, p := range a.Outline {
				q := a.Outline[(n+1)%len(a.Outline)]
				area += p.U*q.V - p.V*q.U
				low = api.Pt{U: min(low.U, p.U), V: min(low.V, p.V)}
				for m, o := range a.Outline {
					d := sub(f.Corners[n], f.Corners[m])
					if p.V-o.V != d.X*up.X+d.Y*up.Y || p.U-o.U != d.X*right.X+d.Y*right.Y {
						t.Fatal(r, i, a)
					}
				}
			}
			for _, h := range a.Holes {
				area -= 2 * (h.To.U - h.From.U) * (h.To.V - h.From.V)
			}
			if area != areas[i] || low != (api.Pt{}) {
				t.Fatal(r, i, a, areas)
			}
		}
	}
}

// The holes of a face that is laid are where its openings are.
func TestLaidHoles(t *testing.T) {
	rng := rand.New(rand.NewSource(12))
	for range 200 {
		r := randomRoof(rng)
		for i, f := range r.Faces {
			a, _ := roof.Lay(r, i)
			var holes []api.Box
			up := at(-down(f).X, -down(f).Y)
			right := at(up.Y, -up.X)
			for _, o := range r.Opens {
				if o.Face != i {
					continue
				}
				p, q := sub(o.Low, f.Corners[0]), sub(o.High, f.Corners[0])
				base := a.Outline[0]
				u, v := base.U+p.X*right.X+p.Y*right.Y, base.V+p.X*up.X+p.Y*up.Y
				toU, toV := base.U+q.X*right.X+q.Y*right.Y, base.V+q.X*up.X+q.Y*up.Y
				holes = append(holes, box(min(u, toU), min(v, toV), max(u, toU), max(v, toV)))
			}
			if !slices.Equal(holes, a.Holes) {
				t.Fatal(r, i, a, holes)
			}
		}
	}
}

func TestTurnedAndScaled(t *testing.T) {
	rng := rand.New(rand.NewSource(13))
	for range 200 {
		r := randomRoof(rng)
		edges, _ := roof.Edges(r)
		ways, _ := roof.Ways(r)
		stands, _ := roof.Stands(r)
		for name, c := range map[string]api.Roof{"turned": turned(r, roofSize), "three times as great": scaled(r, 3), "as great as it can be": scaled(r, 100)} {
			l, e := roof.Edges(c)
			if e != api.OK || !slices.Equal(l, edges) {
				t.Fatal(name, r, l, e)
			}
			if w, e := roof.Ways(c); e != api.OK || !slices.Equal(w, ways) {
				t.Fatal(name, r, w, e)
			}
			if s, e := roof.Stands(c); e != api.OK || !slices.Equal(s, stands) {
				t.Fatal(name, r, s, e)
			}
		}
	}
}

func TestTurnedFourTimes(t *testing.T) {
	r := house()
	for range 4 {
		r = turned(r, 100)
	}
	if !sameRoof(r, house()) {
		t.Error(r)
	}
}

func TestMirrored(t *testing.T) {
	rng := rand.New(rand.NewSource(14))
	for range 200 {
		r := randomRoof(rng)
		m := mirrored(r, roofSize)
		edges, _ := roof.Edges(r)
		ways, _ := roof.Ways(r)
		stands, _ := roof.Stands(r)
		for i, x := range edges {
			edges[i].Number = mirrorEdge(r.Faces[x.Face], x.Number)
			if x.With >= 0 {
				edges[i].At = mirrorEdge(r.Faces[x.With], x.At)
			}
		}
		for i, w := range ways {
			ways[i].Edge = mirrorEdge(r.Faces[w.Face], w.Edge)
		}
		slices.SortFunc(edges, func(a, b api.Edge) int { return 100*(a.Face-b.Face) + a.Number - b.Number })
		slices.SortFunc(ways, func(a, b api.Way) int { return 100*(a.Face-b.Face) + a.Edge - b.Edge })
		if l, e := roof.Edges(m); e != api.OK || !slices.Equal(l, edges) {
			t.Fatal(r, l, edges, e)
		}
		if l, e := roof.Ways(m); e != api.OK || !slices.Equal(l, ways) {
			t.Fatal(r, l, ways, e)
		}
		if l, e := roof.Stands(m); e != api.OK || !slices.Equal(l, stands) {
			t.Fatal(r, l, stands, e)
		}
	}
}

// Water that goes over an edge comes onto a face that is no higher there, and that does not rise from there if the edge is no step.
func TestNoWaterGoesUp(t *testing.T) {
	rng := rand.New(rand.NewSource(15))
	for range 200 {
		r := randomRoof(rng)
		ways, _ := roof.Ways(r)
		edges, _ := roof.Edges(r)
		for _, w := range ways {
			i := slices.IndexFunc(edges, func(e api.Edge) bool { return e.Face == w.Face && e.Number == w.Edge })
			if w.Kind != api.WaOver {
				continue
			}
			f, g, e := r.Faces[w.Face], r.Faces[edges[i].With], sides(r.Faces[w.Face])[w.Edge]
			if rises(f, e).Sign() <= 0 || height(f, e[0]).Cmp(height(g, e[0])) < 0 || height(f, e[1]).Cmp(height(g, e[1])) < 0 {
				t.Fatal(r, w)
			}
			if edges[i].Kind != api.EgStep && rises(g, [2]api.At{e[1], e[0]}).Sign() > 0 {
				t.Fatal(r, w)
			}
		}
	}
}
