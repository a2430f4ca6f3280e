package yard_test

import (
	"math/rand"

	"thatch/api"
	"thatch/roof"
)

// randomRoof is a roof that may be: a house, a hipped one, a trough, or faces by themselves.
func randomRoof(rng *rand.Rand) api.Roof {
	w, h := between(rng, 10, 120), between(rng, 5, 40)
	if rng.Intn(5) == 0 {
		w, h = 3*w, 4*h
	}
	r := api.Roof{Faces: []api.Face{face("s", api.SiSouth, at(0, 0), at(w, h)), face("n", api.SiNorth, at(0, h), at(w, 2*h))}}
	switch rng.Intn(4) {
	case 0:
		r = hipped(min(2*h+w, 400), h)
	case 1:
		r.Faces[0].Side, r.Faces[0].Foot = api.SiNorth, h
		r.Faces[1].Side, r.Faces[1].Foot = api.SiSouth, h
	case 2:
		r.Faces[1] = face("w", api.Side(between(rng, 1, 4)), at(500, 0), at(500+h, w))
	}
	if rng.Intn(3) == 0 {
		r.Faces = append(r.Faces, face("x", api.Side(between(rng, 1, 4)), at(1000, 0), at(1000+w, h)))
	}
	x, y := between(rng, 1, w-2), between(rng, 1, h-2)
	open := r
	open.Opens = []api.Open{{Name: "o", Low: at(x, y), High: at(between(rng, x+1, w-1), between(rng, y+1, h-1))}}
	if rng.Intn(2) == 0 && roof.Check(open) == api.OK {
		r = open
	}
	return r
}

// hipped is four faces that meet in a ridge and hips.
func hipped(w, h int) api.Roof {
	sloped := func(name string, side api.Side, foot int, corners ...api.At) api.Face {
		return api.Face{Name: name, Side: side, Foot: foot, Rise: 1, Run: 1, Corners: corners}
	}
	return api.Roof{Faces: []api.Face{
		sloped("s", api.SiSouth, 0, at(0, 0), at(w, 0), at(w-h, h), at(h, h)),
		sloped("e", api.SiEast, w, at(w, 0), at(w, 2*h), at(w-h, h)),
		sloped("n", api.SiNorth, 2*h, at(w, 2*h), at(0, 2*h), at(h, h), at(w-h, h)),
		sloped("w", api.SiWest, 0, at(0, 2*h), at(0, 0), at(h, h)),
	}}
}

func randomRule(rng *rand.Rand) api.Custom {
	return api.Custom{
		Layers: between(rng, 1, 3),
		Eave:   api.Span{Low: -between(rng, 20, 99), High: -rng.Intn(20)},
		Gauge:  api.Span{Low: between(rng, 1, 12), High: between(rng, 12, 99)},
		Side:   rng.Intn(12),
		Break:  rng.Intn(12),
		Lean:   rng.Intn(51),
	}
}

func randomMake(rng *rand.Rand) api.Make {
	return api.Make{Width: between(rng, 12, 99), Length: between(rng, 12, 99), Taper: rng.Intn(6), Thick: between(rng, 1, 1000)}
}
