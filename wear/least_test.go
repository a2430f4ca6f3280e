package wear_test

import (
	"math"
	"math/rand"
	"testing"

	"thatch/api"
	"thatch/wear"
)

// P7.3 (Least, Next, Keeps, Lasts).

// valley is thickest at two marks, and as thin as can be in the middle between them.
func valley() api.Skin {
	return of(rectangle(0, 0, 8, 4), 3, span(0, 100), mark(0, 0, 50, 60), mark(8, 4, 50, 60))
}

func TestLeastAndNext(t *testing.T) {
	for _, c := range []struct {
		name    string
		s       api.Skin
		low     int
		lowAt   api.Pt
		width   int
		widthAt api.Pt
	}{
		{"as it is", example(), 120, pt(20, 10), 140, pt(20, 10)},
		{"no mark", changed(func(s *api.Skin) { s.Marks = nil }), 100, pt(0, 0), 200, pt(0, 0)},
		{"level", changed(func(s *api.Skin) { s.Steep = 0 }), 180, pt(0, 0), 20, pt(0, 0)},
		{"steep", changed(func(s *api.Skin) { s.Steep = 1000 }), 100, pt(1, 0), 200, pt(1, 0)},
		{"as far from both marks, the first one by V", valley(), 32, pt(6, 0), 46, pt(6, 0)},
		{"in a triangle", of(api.Area{Outline: outline(5, 1, 9, 7, 2, 4)}, 1, span(7, 9)), 7, pt(5, 1), 2, pt(5, 1)},
		{"the first point is in a hole", of(rectangle(0, 0, 3, 3, box(-1, -1, 2, 1)), 1, span(7, 9)), 7, pt(2, 0), 2, pt(2, 0)},
		{"the first row is in a hole", of(rectangle(0, 0, 3, 3, box(-1, -1, 5, 1)), 1, span(7, 9)), 7, pt(0, 1), 2, pt(0, 1)},
		{"one point", of(rectangle(0, 0, 3, 3, box(-1, -1, 5, 3), box(-1, 2, 3, 5)), 1, span(7, 9)), 7, pt(3, 3), 2, pt(3, 3)},
		{"one thickness", of(rectangle(4, 4, 9, 9), 1, span(7, 7)), 7, pt(4, 4), 0, pt(4, 4)},
		{"0", of(rectangle(4, 4, 9, 9), 1, span(0, 2000)), 0, pt(4, 4), 2000, pt(4, 4)},
		{"the least ahead of a row, the widest behind it", of(rectangle(0, 0, 9, 2), 1, span(0, 100), mark(9, 2, 40, 45)), 29, pt(0, 0), 27, pt(0, 0)},
		{"narrow marks are not the widest", of(rectangle(0, 0, 1, 1), 9, span(0, 9), mark(0, 0, 5, 5), mark(1, 0, 0, 2), mark(0, 1, 6, 9)), 0, pt(1, 0), 9, pt(1, 1)},
	} {
		if n, p, e := wear.Least(c.s); e != api.OK || n != c.low || p != c.lowAt {
			t.Errorf("%s: %d %v %d", c.name, n, p, e)
		}
		if n, p, e := wear.Next(c.s); e != api.OK || n != c.width || p != c.widthAt {
			t.Errorf("%s: %d %v %d", c.name, n, p, e)
		}
	}
	if n, p, e := wear.Least(pointless()); e != api.ErrScope || n != 0 || p != (api.Pt{}) {
		t.Error(n, p, e)
	}
	if n, p, e := wear.Next(pointless()); e != api.ErrScope || n != 0 || p != (api.Pt{}) {
		t.Error(n, p, e)
	}
	none := changed(func(s *api.Skin) { s.Marks[0].Thick = span(80, 99) })
	if n, p, e := wear.Least(none); e != api.ErrClash || n != 0 || p != (api.Pt{}) {
		t.Error(n, p, e)
	}
	if n, p, e := wear.Next(none); e != api.ErrClash || n != 0 || p != (api.Pt{}) {
		t.Error(n, p, e)
	}
}

// Least, Next and Keeps are what can be told from the bounds of all points.
func TestLeastNextAndKeepsRandom(t *testing.T) {
	rng := rand.New(rand.NewSource(104))
	seen := map[api.Known]int{}
	for range 2000 {
		s := randomSkin(rng, 7)
		points := allPoints(s.Area)
		if len(points) == 0 {
			if _, _, e := wear.Least(s); e != api.ErrScope {
				t.Fatal(s, e)
			}
			if _, _, e := wear.Next(s); e != api.ErrScope {
				t.Fatal(s, e)
			}
			if k := askKeeps(t, s, 2000); k != api.KnYes {
				t.Fatal(s, k)
			}
			continue
		}
		lows, highs, _ := settled(s)
		low, widest, leastHigh := points[0], points[0], math.MaxInt
		for _, p := range points {
			if lows[p] < lows[low] {
				low = p
			}
			if highs[p]-lows[p] > highs[widest]-lows[widest] {
				widest = p
			}
			leastHigh = min(leastHigh, highs[p])
		}
		if n, p, e := wear.Least(s); e != api.OK || n != lows[low] || p != low {
			t.Fatal(s, n, p, e)
		}
		if n, p, e := wear.Next(s); e != api.OK || n != highs[widest]-lows[widest] || p != widest {
			t.Fatal(s, n, p, e)
		}
		for _, need := range []int{0, lows[low], lows[low] + 1, leastHigh, leastHigh + 1, 2000} {
			want := api.KnOpen
			if need <= lows[low] {
				want = api.KnYes
			} else if need > leastHigh {
				want = api.KnNo
			}
			if need > api.MaxCoat {
				continue
			}
			if k := askKeeps(t, s, need); k != want {
				t.Fatal(s, need, k)
			}
			seen[want]++
		}
	}
	for _, k := range []api.Known{api.KnYes, api.KnNo, api.KnOpen} {
		if seen[k] < 500 {
			t.Error(k, seen[k])
		}
	}
}

// A face as large as may be, with as many marks as may be.
func TestLeastOfAllThereIs(t *testing.T) {
	rng := rand.New(rand.NewSource(105))
	s := of(rectangle(0, 0, 400, 400, box(150, 150, 250, 250)), 1, span(0, 2000))
	for i := range 40 {
		s.Marks = append(s.Marks, mark(rng.Intn(150), 10*i, 1000, between(rng, 1000, 1100)))
	}
	low, lowAt, width, widthAt := math.MaxInt, pt(0, 0), -1, pt(0, 0)
	for v := range 401 {
		for u := range 401 {
			p := pt(u, v)
			if isInHole(s.Area, p) {
				continue
			}
			b := s.Thick
			for _, m := range s.Marks {
				d := farAway(p, m.At)
				b = span(max(b.Low, m.Thick.Low-d), min(b.High, m.Thick.High+d))
			}
			if b.Low < low {
				low, lowAt = b.Low, p
			}
			if b.High-b.Low > width {
				width, widthAt = b.High-b.Low, p
			}
		}
	}
	if n, p, e := wear.Least(s); e != api.OK || n != low || p != lowAt {
		t.Error(n, p, e, low, lowAt)
	}
	if n, p, e := wear.Next(s); e != api.OK || n != width || p != widthAt {
		t.Error(n, p, e, width, widthAt)
	}
	if n, e := wear.Lasts(s, span(0, 1), 0, low-198); e != api.OK || n != 198 {
		t.Error(n, e)
	}
}

func TestKeeps(t *testing.T) {
	for _, c := range []struct {
		s    api.Skin
		need int
		want api.Known
	}{
		{example(), 0, api.KnYes},
		{example(), 120, api.KnYes},
		{example(), 121, api.KnOpen},
		{example(), 200, api.KnOpen},
		{example(), 201, api.KnNo},
		{example(), 2000, api.KnNo},
		{of(rectangle(0, 0, 9, 9), 1, span(0, 2000)), 0, api.KnYes},
		{of(rectangle(0, 0, 9, 9), 1, span(0, 2000)), 1, api.KnOpen},
		{of(rectangle(0, 0, 9, 9), 1, span(0, 2000)), 2000, api.KnOpen},
		{of(rectangle(0, 0, 9, 9), 1, span(7, 7)), 7, api.KnYes},
		{of(rectangle(0, 0, 9, 9), 1, span(7, 7)), 8, api.KnNo},
		{pointless(), 0, api.KnYes},
		{pointless(), 7, api.KnYes},
		{pointless(), 2000, api.KnYes},
	} {
		if k := askKeeps(t, c.s, c.need); k != c.want {
			t.Error(c.s, c.need, k)
		}
	}
	for _, c := range []struct {
		s    api.Skin
		need int
		want api.Errno
	}{
		{example(), -1, api.ErrArg},
		{example(), 2001, api.ErrArg},
		{example(), math.MaxInt, api.ErrArg},
		{example(), math.MinInt, api.ErrArg},
		{pointless(), 2001, api.ErrArg},
		{changed(func(s *api.Skin) { s.Marks[0].Thick = span(80, 99) }), -1, api.ErrClash},
	} {
		if k, e := wear.Keeps(c.s, c.need); e != c.want || k != 0 {
			t.Error(c.s, c.need, k, e)
		}
	}
}

func TestLasts(t *testing.T) {
	plain := func(low int) api.Skin { return of(rectangle(0, 0, 3, 3), 0, span(low, 2000)) }
	for _, c := range []struct {
		name       string
		s          api.Skin
		take       api.Span
		gain, need int
		want       int
		e          api.Errno
	}{
		{"two", example(), span(5, 10), 0, 100, 2, api.OK},
		{"one less", example(), span(5, 10), 0, 101, 1, api.OK},
		{"steeper each time", example(), span(5, 10), 1, 80, 2, api.OK},
		{"steeper each time, one less", example(), span(5, 10), 1, 81, 1, api.OK},
		{"not behind the first one", example(), span(0, 1), 0, 120, 0, api.OK},
		{"not at all", example(), span(0, 0), 0, 121, 0, api.OK},
		{"for ever", example(), span(0, 0), 0, 120, 0, api.ErrLimit},
		{"behind 199", plain(200), span(0, 1), 0, 1, 199, api.OK},
		{"behind 200", plain(201), span(0, 1), 0, 1, 0, api.ErrLimit},
		{"behind 198", plain(199), span(0, 1), 0, 1, 198, api.OK},
		{"nothing is needed", plain(9), span(5, 8), 0, 0, 0, api.ErrLimit},
		{"all is taken at once", plain(2000), span(0, 2000), 0, 1, 0, api.OK},
		{"166 gains", plain(9), span(0, 0), 6, 0, 166, api.OK},
		{"199 gains", changed(func(s *api.Skin) { s.Steep = 5 }), span(0, 0), 5, 0, 199, api.OK},
		{"200 gains", plain(9), span(0, 0), 5, 0, 0, api.ErrLimit},
		{"one gain", plain(9), span(0, 0), 1000, 9, 1, api.OK},
		{"one gain, not enough behind it", plain(9), span(0, 1), 1000, 9, 0, api.OK},
		{"no gain", changed(func(s *api.Skin) { s.Steep = 1000 }), span(0, 1), 1, 0, 0, api.ErrLimit},
		{"too much gain at once", example(), span(0, 0), 999, 100, 0, api.ErrLimit},
		{"too much gain at once, not at all", example(), span(0, 0), 999, 2000, 0, api.ErrLimit},
		{"too much gain at once, need -1", example(), span(0, 0), 999, -1, 0, api.ErrLimit},
		{"no points", pointless(), span(3, 4), 0, 2000, 0, api.ErrLimit},
		{"no points, 142 gains", pointless(), span(3, 4), 7, 2000, 142, api.OK},
		{"take from 5 to 4", example(), span(5, 4), 0, 100, 0, api.ErrArg},
		{"gain -1", example(), span(0, 1), -1, 100, 0, api.ErrArg},
		{"gain 1001", example(), span(0, 1), 1001, 100, 0, api.ErrArg},
		{"need -1", example(), span(0, 1), 0, -1, 0, api.ErrArg},
		{"need 2001", example(), span(0, 1), 0, 2001, 0, api.ErrArg},
		{"the greatest need", example(), span(0, 1), 0, math.MaxInt, 0, api.ErrArg},
		{"the least need", example(), span(0, 1), 0, math.MinInt, 0, api.ErrArg},
		{"a skin that is none", changed(func(s *api.Skin) { s.Marks[0].Thick = span(80, 99) }), span(5, 4), 0, -1, 0, api.ErrClash},
	} {
		if n, e := wear.Lasts(c.s, c.take, c.gain, c.need); n != c.want || e != c.e {
			t.Errorf("%s: %d %d", c.name, n, e)
		}
	}
}

// countSeasons asks Keeps behind one season after the other.
func countSeasons(t *testing.T, s api.Skin, take api.Span, gain, need int) (int, api.Errno) {
	t.Helper()
	if askKeeps(t, s, need) != api.KnYes {
		return 0, api.OK
	}
	for count := 0; count < api.MaxSeasons; count++ {
		next, e := wear.Season(s, take, gain)
		if e == api.ErrLimit || e == api.OK && askKeeps(t, next, need) != api.KnYes {
			return count, api.OK
		}
		s = next
	}
	return 0, api.ErrLimit
}

func TestLastsRandom(t *testing.T) {
	rng := rand.New(rand.NewSource(106))
	counts := map[int]int{}
	for range 1500 {
		s := randomSkin(rng, 5)
		take, gain := span(0, rng.Intn(3)), rng.Intn(3)*rng.Intn(5)
		take.Low = rng.Intn(take.High + 1)
		need := rng.Intn(1 + min(2000, 2*s.Thick.Low))
		if s.Steep+gain > api.MaxSteep {
			continue
		}
		want, wantError := countSeasons(t, s, take, gain, need)
		if n, e := wear.Lasts(s, take, gain, need); n != want || e != wantError {
			t.Fatal(s, take, gain, need, n, e, want, wantError)
		}
		counts[want]++
	}
	if len(counts) < 30 || counts[0] < 100 {
		t.Error(counts)
	}
}
