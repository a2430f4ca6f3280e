package wear_test

import (
	"math"
	"math/rand"
	"slices"
	"testing"

	"thatch/api"
	"thatch/wear"
)

// P7.2 (Probe, Season).

func TestProbe(t *testing.T) {
	probed := changed(func(s *api.Skin) { s.Marks = append(s.Marks, mark(20, 10, 140, 160)) })
	for _, c := range []struct {
		name           string
		s              api.Skin
		p              api.Pt
		reading, wrong int
		want           []api.Mark
	}{
		{"behind", example(), pt(20, 10), 150, 10, []api.Mark{mark(0, 0, 180, 200), mark(20, 10, 140, 160)}},
		{"between", probed, pt(0, 10), 170, 5, []api.Mark{mark(0, 0, 180, 200), mark(0, 10, 165, 175), mark(20, 10, 140, 160)}},
		{"by V ahead of U", probed, pt(20, 0), 160, 5, []api.Mark{mark(0, 0, 180, 200), mark(20, 0, 155, 165), mark(20, 10, 140, 160)}},
		{"the first one", of(rectangle(0, 0, 9, 9), 2, span(100, 300)), pt(3, 4), 150, 0, []api.Mark{mark(3, 4, 150, 150)}},
		{"ahead", of(rectangle(0, 0, 9, 9), 2, span(100, 300), mark(3, 4, 150, 150)), pt(2, 4), 151, 1, []api.Mark{mark(2, 4, 150, 152), mark(3, 4, 150, 150)}},
		{"at least 0", probed, pt(0, 10), 10, 195, []api.Mark{mark(0, 0, 180, 200), mark(0, 10, 0, 205), mark(20, 10, 140, 160)}},
		{"at most 2000", probed, pt(0, 10), 1900, 1800, []api.Mark{mark(0, 0, 180, 200), mark(0, 10, 100, 2000), mark(20, 10, 140, 160)}},
		{"from 0 to 2000", probed, pt(0, 10), 2000, 2000, []api.Mark{mark(0, 0, 180, 200), mark(0, 10, 0, 2000), mark(20, 10, 140, 160)}},
		{"0, not wrong", of(rectangle(0, 0, 9, 9), 2, span(0, 300)), pt(3, 4), 0, 0, []api.Mark{mark(3, 4, 0, 0)}},
		{"2000, not wrong", of(rectangle(0, 0, 9, 9), 2, span(0, 2000)), pt(3, 4), 2000, 0, []api.Mark{mark(3, 4, 2000, 2000)}},
		{"of a mark, its upper part", probed, pt(20, 10), 165, 10, []api.Mark{mark(0, 0, 180, 200), mark(20, 10, 155, 160)}},
		{"of a mark, its lower part", probed, pt(20, 10), 135, 10, []api.Mark{mark(0, 0, 180, 200), mark(20, 10, 140, 145)}},
		{"of a mark, its middle", probed, pt(20, 10), 150, 2, []api.Mark{mark(0, 0, 180, 200), mark(20, 10, 148, 152)}},
		{"of a mark, all of it", probed, pt(20, 10), 150, 30, []api.Mark{mark(0, 0, 180, 200), mark(20, 10, 140, 160)}},
		{"of a mark, just its least", probed, pt(20, 10), 100, 40, []api.Mark{mark(0, 0, 180, 200), mark(20, 10, 140, 140)}},
		{"of a mark, just its greatest", probed, pt(20, 10), 200, 40, []api.Mark{mark(0, 0, 180, 200), mark(20, 10, 160, 160)}},
		{"of the first mark", probed, pt(0, 0), 182, 2, []api.Mark{mark(0, 0, 180, 184), mark(20, 10, 140, 160)}},
		{"as much higher as may be", probed, pt(1, 0), 212, 10, []api.Mark{mark(0, 0, 180, 200), mark(1, 0, 202, 222), mark(20, 10, 140, 160)}},
		{"on a side of the hole", example(), pt(5, 3), 180, 0, []api.Mark{mark(0, 0, 180, 200), mark(5, 3, 180, 180)}},
	} {
		want := copySkin(c.s)
		want.Marks = c.want
		if s := askProbe(t, c.s, c.p, c.reading, c.wrong); !sameSkin(s, want) {
			t.Errorf("%s: %v", c.name, s)
		}
	}
}

func TestProbeErrors(t *testing.T) {
	probed := changed(func(s *api.Skin) { s.Marks = append(s.Marks, mark(20, 10, 140, 160)) })
	for _, c := range []struct {
		name           string
		s              api.Skin
		p              api.Pt
		reading, wrong int
		want           api.Errno
	}{
		{"a skin that is none", changed(func(s *api.Skin) { s.Marks[0].Thick.High = 99 }), pt(6, 3), -1, -1, api.ErrArg},
		{"in the hole", probed, pt(6, 3), 150, 10, api.ErrNone},
		{"in the hole, reading -1", probed, pt(6, 3), -1, 10, api.ErrNone},
		{"far away", probed, pt(math.MaxInt, math.MaxInt), 150, 10, api.ErrNone},
		{"no point at all", pointless(), pt(1, 1), 5, 0, api.ErrNone},
		{"reading -1", probed, pt(1, 0), -1, 2000, api.ErrArg},
		{"reading 2001", probed, pt(1, 0), 2001, 2000, api.ErrArg},
		{"the greatest reading", probed, pt(1, 0), math.MaxInt, 2000, api.ErrArg},
		{"wrong by -1", probed, pt(1, 0), 190, -1, api.ErrArg},
		{"wrong by 2001", probed, pt(1, 0), 190, 2001, api.ErrArg},
		{"wrong by the greatest number", probed, pt(1, 0), 190, math.MaxInt, api.ErrArg},
		{"wrong by the least number", probed, pt(1, 0), 190, math.MinInt, api.ErrArg},
		{"above another mark", probed, pt(1, 0), 250, 10, api.ErrClash},
		{"just above what another mark allows", probed, pt(1, 0), 213, 10, api.ErrClash},
		{"just below what another mark allows", probed, pt(1, 0), 167, 10, api.ErrClash},
		{"above the skin", probed, pt(7, 0), 311, 10, api.ErrClash},
		{"below the skin", of(rectangle(0, 0, 9, 9), 2, span(100, 300)), pt(1, 1), 89, 10, api.ErrClash},
		{"just below the mark there", probed, pt(20, 10), 100, 39, api.ErrClash},
		{"just above the mark there", probed, pt(20, 10), 200, 39, api.ErrClash},
		{"far below the mark there", probed, pt(20, 10), 0, 0, api.ErrClash},
		{"far above the mark there", probed, pt(20, 10), 2000, 0, api.ErrClash},
		{"in the mark there, not by the other one", changed(func(s *api.Skin) { s.Marks = append(s.Marks, mark(1, 0, 150, 300)) }), pt(1, 0), 250, 10, api.ErrClash},
		{"of the mark there, but not of the skin", changed(func(s *api.Skin) { s.Marks[0].Thick = span(50, 150) }), pt(0, 0), 80, 10, api.ErrClash},
	} {
		if s, e := wear.Probe(c.s, c.p, c.reading, c.wrong); e != c.want || !sameSkin(s, api.Skin{}) {
			t.Errorf("%s: %v %d", c.name, s, e)
		}
	}
}

func TestProbeLimit(t *testing.T) {
	for _, c := range []struct {
		count int
		p     api.Pt
		n     int
		want  api.Errno
	}{
		{39, pt(50, 1), 15, api.OK},
		{39, pt(38, 0), 15, api.OK},
		{40, pt(50, 1), 15, api.ErrLimit},
		{40, pt(50, 1), 1000, api.ErrLimit},
		{40, pt(50, 1), 2001, api.ErrArg},
		{40, pt(50, 2), 15, api.ErrNone},
		{40, pt(0, 0), 15, api.OK},
		{40, pt(39, 0), 15, api.OK},
		{40, pt(39, 0), 5, api.ErrClash},
	} {
		if _, e := wear.Probe(marked(c.count), c.p, c.n, 0); e != c.want {
			t.Error(c, e)
		}
	}
	s := askProbe(t, marked(39), pt(50, 1), 15, 0)
	if len(s.Marks) != 40 || s.Marks[39] != mark(50, 1, 15, 15) {
		t.Error(s.Marks)
	}
}

// A probe adds a mark, or narrows the one that is there; it does so just if there are thicknesses of which that is true.
func TestProbeRandom(t *testing.T) {
	rng := rand.New(rand.NewSource(103))
	seen := map[api.Errno]int{}
	for range 3000 {
		s := randomSkin(rng, 5)
		points := allPoints(s.Area)
		if len(points) == 0 {
			continue
		}
		p, reading, wrong := points[rng.Intn(len(points))], between(rng, 0, 60), between(rng, 0, 20)
		if len(s.Marks) > 0 && rng.Intn(2) == 0 {
			p = s.Marks[rng.Intn(len(s.Marks))].At
		}
		want := copySkin(s)
		m := api.Mark{At: p, Thick: span(max(0, reading-wrong), reading+wrong)}
		if i := slices.IndexFunc(s.Marks, func(o api.Mark) bool { return o.At == p }); i >= 0 {
			o := s.Marks[i].Thick
			m.Thick = span(max(m.Thick.Low, o.Low), min(m.Thick.High, o.High))
			want.Marks = slices.Delete(want.Marks, i, i+1)
		}
		want.Marks = append(want.Marks, m)
		slices.SortFunc(want.Marks, func(a, b api.Mark) int { return comparePlaces(a.At, b.At) })
		wantError := api.OK
		if _, _, ok := settled(want); !ok {
			want, wantError = api.Skin{}, api.ErrClash
		}
		next, e := wear.Probe(s, p, reading, wrong)
		if e != wantError || !sameSkin(next, want) {
			t.Fatal(s, p, reading, wrong, next, e)
		}
		seen[e]++
	}
	if seen[api.OK] < 500 || seen[api.ErrClash] < 500 {
		t.Error(seen)
	}
}

func TestSeason(t *testing.T) {
	for _, c := range []struct {
		take  api.Span
		gain  int
		steep int
		thick api.Span
		marks []api.Mark
	}{
		{span(5, 8), 1, 3, span(92, 295), []api.Mark{mark(0, 0, 172, 195), mark(20, 10, 132, 155)}},
		{span(0, 0), 0, 2, span(100, 300), []api.Mark{mark(0, 0, 180, 200), mark(20, 10, 140, 160)}},
		{span(0, 7), 998, 1000, span(93, 300), []api.Mark{mark(0, 0, 173, 200), mark(20, 10, 133, 160)}},
		{span(100, 100), 0, 2, span(0, 200), []api.Mark{mark(0, 0, 80, 100), mark(20, 10, 40, 60)}},
		{span(160, 180), 0, 2, span(0, 140), []api.Mark{mark(0, 0, 0, 40), mark(20, 10, 0, 0)}},
		{span(190, 250), 0, 2, span(0, 110), []api.Mark{mark(0, 0, 0, 10), mark(20, 10, 0, 0)}},
		{span(1999, 2000), 0, 2, span(0, 0), []api.Mark{mark(0, 0, 0, 0), mark(20, 10, 0, 0)}},
		{span(0, 2000), 0, 2, span(0, 300), []api.Mark{mark(0, 0, 0, 200), mark(20, 10, 0, 160)}},
	} {
		s := changed(func(s *api.Skin) { s.Marks = append(s.Marks, mark(20, 10, 140, 160)) })
		want := of(s.Area, c.steep, c.thick, c.marks...)
		if next := askSeason(t, s, c.take, c.gain); !sameSkin(next, want) {
			t.Error(c, next)
		}
	}
	if s := askSeason(t, pointless(), span(1, 2), 3); !sameSkin(s, of(pointless().Area, 3, span(3, 8))) {
		t.Error(s)
	}
}

func TestSeasonErrors(t *testing.T) {
	for _, c := range []struct {
		s    api.Skin
		take api.Span
		gain int
		want api.Errno
	}{
		{changed(func(s *api.Skin) { s.Area.Outline = s.Area.Outline[:2] }), span(5, 8), 1, api.ErrArg},
		{changed(func(s *api.Skin) { s.Marks[0].Thick = span(80, 99) }), span(5, 4), -1, api.ErrClash},
		{example(), span(5, 4), 0, api.ErrArg},
		{example(), span(-1, 4), 0, api.ErrArg},
		{example(), span(0, 2001), 0, api.ErrArg},
		{example(), span(math.MinInt, math.MaxInt), 0, api.ErrArg},
		{example(), span(0, 0), -1, api.ErrArg},
		{example(), span(0, 0), 1001, api.ErrArg},
		{example(), span(0, 0), math.MaxInt, api.ErrArg},
		{example(), span(0, 0), math.MinInt, api.ErrArg},
		{example(), span(5, 4), 999, api.ErrArg},
		{example(), span(0, 0), 999, api.ErrLimit},
		{example(), span(0, 0), 1000, api.ErrLimit},
	} {
		if s, e := wear.Season(c.s, c.take, c.gain); e != c.want || !sameSkin(s, api.Skin{}) {
			t.Error(c, s, e)
		}
	}
}
