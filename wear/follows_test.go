package wear_test

import (
	"math/rand"
	"testing"

	"thatch/api"
	"thatch/roof"
	"thatch/wear"
)

// P7.6 (what follows), and P0.3 (bounds).

// What roof.Lay makes of a face is the area of a skin (P0.1).
func TestFacesOfRoofs(t *testing.T) {
	r, _, e := roof.Parse("face s south 0 300 1 1 0 0 100 0 80 40 20 40\nface n north 80 300 1 1 100 80 0 80 20 40 80 40\nopen stack s 30 10 40 30\n")
	if e != api.OK {
		t.Fatal(e)
	}
	for face := range r.Faces {
		a, e := roof.Lay(r, face)
		if e != api.OK || wear.Check(of(a, 2, span(100, 300), mark(50, 40, 180, 200))) != api.OK {
			t.Error(face, a, e)
		}
	}
}

// trueSkin is a skin with a point, and thicknesses of its points that are as it says.
func trueSkin(rng *rand.Rand, size int) (api.Skin, thicknesses) {
	for {
		s := randomSkin(rng, size)
		if real := random(rng, s); len(real) > 0 {
			return s, real
		}
	}
}

// probe is what somebody reads at a point.
type probe struct {
	at             api.Pt
	reading, wrong int
}

// randomProbe is wrong by no more than it may be.
func randomProbe(rng *rand.Rand, real thicknesses, points []api.Pt) probe {
	p := points[rng.Intn(len(points))]
	wrong := rng.Intn(30)
	return probe{p, max(0, min(api.MaxCoat, real[p]+between(rng, -wrong, wrong))), wrong}
}

func isWithin(t *testing.T, s api.Skin, real thicknesses) {
	t.Helper()
	for p, n := range real {
		if b := askBounds(t, s, p); n < b.Low || n > b.High {
			t.Fatal(s, p, n, b)
		}
	}
}

func TestTruthStaysTrueBehindProbes(t *testing.T) {
	rng := rand.New(rand.NewSource(109))
	for range 300 {
		s, real := trueSkin(rng, 6)
		points := allPoints(s.Area)
		for range 6 {
			x := randomProbe(rng, real, points)
			s = askProbe(t, s, x.at, x.reading, x.wrong)
			if wear.Check(s) != api.OK || !isTrue(s, real) {
				t.Fatal(s, real, x)
			}
			isWithin(t, s, real)
		}
	}
}

func TestTruthStaysTrueBehindSeasons(t *testing.T) {
	rng := rand.New(rand.NewSource(110))
	bare := 0
	for range 300 {
		s, real := trueSkin(rng, 6)
		for range 3 {
			take, gain := randomSpan(rng, 0, 1+s.Thick.High/2), rng.Intn(4)
			if s.Steep+gain > api.MaxSteep {
				continue
			}
			// What is taken of a point differs as a thickness of a skin does.
			taken := random(rng, of(s.Area, gain, take))
			behind := thicknesses{}
			for p, n := range real {
				behind[p] = max(0, n-taken[p])
				if behind[p] == 0 && n > 0 {
					bare++
				}
			}
			s, real = askSeason(t, s, take, gain), behind
			if wear.Check(s) != api.OK || !isTrue(s, real) {
				t.Fatal(s, real, take, gain)
			}
			isWithin(t, s, real)
		}
	}
	if bare < 100 {
		t.Error(bare)
	}
}

// Behind a season that takes the same everywhere, the least of each point is just what the most that is taken leaves of its least; and its greatest is no less than the least that is taken leaves.
func TestEvenSeasons(t *testing.T) {
	rng := rand.New(rand.NewSource(111))
	for range 300 {
		s, real := trueSkin(rng, 5)
		take := randomSpan(rng, 0, 40)
		next := askSeason(t, s, take, 0)
		for p := range real {
			b, c := askBounds(t, s, p), askBounds(t, next, p)
			if c.Low != max(0, b.Low-take.High) || c.High < max(0, b.High-take.Low) {
				t.Fatal(s, take, p, b, c)
			}
		}
	}
}

func TestProbesInAnyOrder(t *testing.T) {
	rng := rand.New(rand.NewSource(112))
	again := 0
	for range 500 {
		s, real := trueSkin(rng, 6)
		points := allPoints(s.Area)
		var list []probe
		for range between(rng, 2, 7) {
			list = append(list, randomProbe(rng, real, points[:min(len(points), 12)]))
		}
		want := s
		for _, x := range list {
			want = askProbe(t, want, x.at, x.reading, x.wrong)
		}
		if len(want.Marks) < len(s.Marks)+len(list) {
			again++
		}
		for range 4 {
			other := s
			for _, i := range rng.Perm(len(list)) {
				other = askProbe(t, other, list[i].at, list[i].reading, list[i].wrong)
			}
			if !sameSkin(other, want) {
				t.Fatal(s, list, other, want)
			}
		}
	}
	if again < 100 {
		t.Error(again)
	}
}

// Probes that contradict what is known do so in any order.
func TestProbesThatClashInAnyOrder(t *testing.T) {
	rng := rand.New(rand.NewSource(113))
	seen := map[api.Errno]int{}
	for range 1000 {
		s, _ := trueSkin(rng, 4)
		points := allPoints(s.Area)
		var list []probe
		for range 3 {
			list = append(list, probe{points[rng.Intn(len(points))], between(rng, s.Thick.Low, s.Thick.High), rng.Intn(9)})
		}
		all := func(order []int) (next api.Skin, e api.Errno) {
			next = s
			for _, i := range order {
				if next, e = wear.Probe(next, list[i].at, list[i].reading, list[i].wrong); e != api.OK {
					break
				}
			}
			return next, e
		}
		want, wantError := all([]int{0, 1, 2})
		if next, e := all(rng.Perm(3)); e != wantError || !sameSkin(next, want) {
			t.Fatal(s, list, next, e, want, wantError)
		}
		seen[wantError]++
	}
	if seen[api.OK] < 100 || seen[api.ErrClash] < 100 || len(seen) != 2 {
		t.Error(seen)
	}
}

func TestNoProbeMakesBoundsWider(t *testing.T) {
	rng := rand.New(rand.NewSource(114))
	narrower := 0
	for range 300 {
		s, real := trueSkin(rng, 6)
		points := allPoints(s.Area)
		for range 4 {
			x := randomProbe(rng, real, points)
			next := askProbe(t, s, x.at, x.reading, x.wrong)
			for _, p := range points {
				b, c := askBounds(t, s, p), askBounds(t, next, p)
				if c.Low < b.Low || c.High > b.High {
					t.Fatal(s, x, p, b, c)
				}
				if b != c {
					narrower++
				}
			}
			s = next
		}
	}
	if narrower < 1500 {
		t.Error(narrower)
	}
}

func TestBoundsDifferByTheRate(t *testing.T) {
	rng := rand.New(rand.NewSource(115))
	for range 300 {
		s, real := trueSkin(rng, 6)
		for p := range real {
			for q := range real {
				b, c, d := askBounds(t, s, p), askBounds(t, s, q), s.Steep*farAway(p, q)
				if b.Low-c.Low > d || b.High-c.High > d {
					t.Fatal(s, p, q, b, c)
				}
			}
		}
	}
}

// The least and the greatest that are told of each point are thicknesses that may be, all at once: nothing narrower is known.
func TestEndsOfBoundsMayBe(t *testing.T) {
	rng := rand.New(rand.NewSource(116))
	for range 600 {
		s, real := trueSkin(rng, 6)
		lows, highs := thicknesses{}, thicknesses{}
		for p := range real {
			b := askBounds(t, s, p)
			lows[p], highs[p] = b.Low, b.High
		}
		if !isTrue(s, real) || !isTrue(s, lows) || !isTrue(s, highs) {
			t.Fatal(s, real, lows, highs)
		}
	}
}

// It pays to probe where Next says, until nothing is left to be known.
func TestProbesWhereNextSays(t *testing.T) {
	rng := rand.New(rand.NewSource(117))
	known := 0
	for range 300 {
		s, real := trueSkin(rng, 6)
		for len(s.Marks) < api.MaxMarks {
			width, at, e := wear.Next(s)
			if e != api.OK {
				t.Fatal(s, e)
			}
			s = askProbe(t, s, at, real[at], 0)
			left, _, e := wear.Next(s)
			if e != api.OK || left > width {
				t.Fatal(s, width, left, at, e)
			}
			if b := askBounds(t, s, at); b != span(real[at], real[at]) {
				t.Fatal(s, at, b)
			}
			if left == 0 {
				known++
				break
			}
		}
		isWithin(t, s, real)
	}
	if known < 100 {
		t.Error(known)
	}
}

// What Keeps and Lasts say is so, whatever the thicknesses really are.
func TestKeepsIsTrue(t *testing.T) {
	rng := rand.New(rand.NewSource(118))
	seen := map[api.Known]int{}
	for range 1500 {
		s, real := trueSkin(rng, 5)
		need, enough := between(rng, s.Thick.Low, s.Thick.High), true
		for _, n := range real {
			enough = enough && n >= need
		}
		k := askKeeps(t, s, need)
		if k == api.KnYes && !enough || k == api.KnNo && enough {
			t.Fatal(s, real, need, k)
		}
		low, at, e := wear.Least(s)
		if e != api.OK || low > real[at] || (k == api.KnYes) != (low >= need) {
			t.Fatal(s, real, low, at, e)
		}
		seen[k]++
	}
	if seen[api.KnYes] < 100 || seen[api.KnNo] < 20 || seen[api.KnOpen] < 100 {
		t.Error(seen)
	}
}

func TestWorseFacesLoseNoLess(t *testing.T) {
	rng := rand.New(rand.NewSource(119))
	more := 0
	for range 5000 {
		c := api.Climate{Take: randomSpan(rng, 0, api.MaxTaken)}
		rise, run, shade, moss := between(rng, 1, 100), between(rng, 1, 100), between(rng, 0, 100), between(rng, 0, 100)
		b, e := wear.Rate(c, rise, run, shade, moss)
		if e != api.OK || b.Low > b.High {
			t.Fatal(c, rise, run, shade, moss, b, e)
		}
		for _, worse := range [][4]int{
			{between(rng, 1, rise), run, shade, moss},
			{rise, between(rng, run, 100), shade, moss},
			{rise, run, between(rng, shade, 100), moss},
			{rise, run, shade, between(rng, moss, 100)},
		} {
			w, e := wear.Rate(c, worse[0], worse[1], worse[2], worse[3])
			if e != api.OK || w.Low < b.Low || w.High < b.High {
				t.Fatal(c, rise, run, shade, moss, worse, b, w, e)
			}
			if w.High > b.High {
				more++
			}
		}
	}
	if more < 10000 {
		t.Error(more)
	}
}
