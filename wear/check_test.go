package wear_test

import (
	"math"
	"math/rand"
	"testing"

	"thatch/api"
	"thatch/wear"
)

// P7.1 (Check, Bounds).

// checked is what is changed in the skin of the examples, and the error that it has then.
type checked struct {
	name string
	do   func(s *api.Skin)
	want api.Errno
}

func checkAll(t *testing.T, list []checked) {
	t.Helper()
	for _, c := range list {
		if e := wear.Check(changed(c.do)); e != c.want {
			t.Errorf("%s: %d, not %d", c.name, e, c.want)
		}
	}
}

// twelve are as many corners as may be.
func twelve() []api.Pt {
	return outline(10, 0, 30, 0, 60, 10, 80, 30, 90, 60, 80, 90, 60, 100, 30, 100, 10, 80, 2, 60, 0, 40, 2, 20)
}

func TestCheckOutline(t *testing.T) {
	corners := func(n ...int) func(s *api.Skin) {
		return func(s *api.Skin) { s.Area.Outline, s.Marks = outline(n...), nil }
	}
	checkAll(t, []checked{
		{"as it is", func(s *api.Skin) {}, api.OK},
		{"no corner", corners(), api.ErrArg},
		{"2 corners", corners(0, 0, 20, 0), api.ErrArg},
		{"3 corners", corners(0, 0, 20, 0, 0, 20), api.OK},
		{"12 corners", func(s *api.Skin) { s.Area.Outline, s.Marks = twelve(), nil }, api.OK},
		{"13 corners", func(s *api.Skin) { s.Area.Outline, s.Marks = append(twelve(), pt(5, 10)), nil }, api.ErrArg},
		{"13 corners, all the same", func(s *api.Skin) { s.Area.Outline = make([]api.Pt, 13) }, api.ErrArg},
		{"2 equal corners", corners(0, 0, 0, 0), api.ErrArg},
		{"2 corners, 7 holes", func(s *api.Skin) { s.Area = api.Area{Outline: outline(0, 0, 9, 0), Holes: make([]api.Box, 7)} }, api.ErrArg},
		{"all there is", corners(0, 0, 400, 0, 400, 400, 0, 400), api.OK},
		{"U -1", corners(-1, 0, 20, 0, 0, 20), api.ErrArg},
		{"U 401", corners(0, 0, 401, 0, 0, 20), api.ErrArg},
		{"V -1", corners(0, -1, 20, 0, 0, 20), api.ErrArg},
		{"V 401", corners(0, 0, 20, 0, 0, 401), api.ErrArg},
		{"the greatest U", corners(0, 0, math.MaxInt, 0, 0, 20), api.ErrArg},
		{"the least V", corners(0, math.MinInt, 20, 0, 0, 20), api.ErrArg},
		{"a U of 401 behind two equal corners", corners(0, 0, 0, 0, 401, 0), api.ErrArg},
		{"two equal corners", corners(0, 0, 20, 0, 20, 10, 20, 0), api.ErrTwice},
		{"two equal corners, clockwise", corners(0, 0, 0, 20, 0, 0), api.ErrTwice},
		{"a straight corner", corners(0, 0, 10, 0, 20, 0, 0, 20), api.OK},
		{"clockwise", corners(0, 0, 0, 20, 20, 0), api.ErrScope},
		{"on one line", corners(0, 0, 10, 10, 20, 20), api.ErrScope},
		{"a dent", corners(0, 0, 20, 0, 5, 5, 0, 20), api.ErrScope},
		{"sides that cross", corners(0, 0, 20, 20, 20, 0, 0, 20), api.ErrScope},
		{"back over a side", corners(0, 0, 20, 0, 10, 0, 0, 20), api.ErrScope},
		{"clockwise, 7 holes", func(s *api.Skin) { s.Area = api.Area{Outline: outline(0, 0, 0, 9, 9, 0), Holes: make([]api.Box, 7)} }, api.ErrScope},
	})
}

func TestCheckHoles(t *testing.T) {
	holes := func(list ...api.Box) func(s *api.Skin) {
		return func(s *api.Skin) { s.Area.Holes = list }
	}
	six := []api.Box{box(1, 1, 2, 2), box(1, 1, 2, 2), box(0, 0, 20, 10), box(19, 9, 30, 30), box(-9, -9, -5, -5), box(3, 3, 4, 4)}
	checkAll(t, []checked{
		{"none", holes(), api.OK},
		{"6, that touch one another, and the outline", holes(six...), api.OK},
		{"7", holes(append(six, box(3, 3, 4, 4))...), api.ErrLimit},
		{"7 that are none", holes(make([]api.Box, 7)...), api.ErrLimit},
		{"7, and Steep -1", func(s *api.Skin) { s.Area.Holes, s.Steep = make([]api.Box, 7), -1 }, api.ErrLimit},
		{"as wide as can be", holes(box(math.MinInt, 5, math.MaxInt, 6)), api.OK},
		{"as high as can be", holes(box(5, math.MinInt, 6, math.MaxInt)), api.OK},
		{"not wide", holes(box(5, 2, 5, 6)), api.ErrArg},
		{"not high", holes(box(5, 2, 9, 2)), api.ErrArg},
		{"to the left", holes(box(5, 2, 4, 6)), api.ErrArg},
		{"down", holes(box(5, 2, 9, 1)), api.ErrArg},
		{"the second one is none", holes(box(5, 2, 9, 6), box(math.MaxInt, 2, math.MinInt, 6)), api.ErrArg},
		{"not wide, 41 marks", func(s *api.Skin) { s.Area.Holes, s.Marks = []api.Box{box(5, 2, 5, 6)}, make([]api.Mark, 41) }, api.ErrArg},
	})
}

func TestCheckThick(t *testing.T) {
	bare := func(steep int, thick api.Span) func(s *api.Skin) {
		return func(s *api.Skin) { s.Steep, s.Thick, s.Marks = steep, thick, nil }
	}
	crowded := func(steep int, thick api.Span) func(s *api.Skin) {
		return func(s *api.Skin) { s.Steep, s.Thick, s.Marks = steep, thick, make([]api.Mark, 41) }
	}
	checkAll(t, []checked{
		{"steep -1", bare(-1, span(1, 2)), api.ErrArg},
		{"steep 0", bare(0, span(1, 2)), api.OK},
		{"steep 1000", bare(1000, span(1, 2)), api.OK},
		{"steep 1001", bare(1001, span(1, 2)), api.ErrArg},
		{"the least steep", bare(math.MinInt, span(1, 2)), api.ErrArg},
		{"the greatest steep", bare(math.MaxInt, span(1, 2)), api.ErrArg},
		{"from -1", bare(2, span(-1, 2)), api.ErrArg},
		{"from 0 to 2000", bare(2, span(0, 2000)), api.OK},
		{"to 2001", bare(2, span(1, 2001)), api.ErrArg},
		{"0", bare(2, span(0, 0)), api.OK},
		{"2000", bare(2, span(2000, 2000)), api.OK},
		{"from 5 to 4", bare(2, span(5, 4)), api.ErrArg},
		{"from the least to the greatest", bare(2, span(math.MinInt, math.MaxInt)), api.ErrArg},
		{"steep -1, 41 marks", crowded(-1, span(1, 2)), api.ErrArg},
		{"from 5 to 4, 41 marks", crowded(2, span(5, 4)), api.ErrArg},
		{"41 marks at points that are none", crowded(2, span(0, 2)), api.ErrLimit},
	})
	for count, want := range map[int]api.Errno{0: api.OK, 39: api.OK, 40: api.OK, 41: api.ErrLimit} {
		if e := wear.Check(marked(count)); e != want {
			t.Error(count, e)
		}
	}
}

func TestCheckMarks(t *testing.T) {
	marks := func(list ...api.Mark) func(s *api.Skin) {
		return func(s *api.Skin) { s.Marks = list }
	}
	checkAll(t, []checked{
		{"none", marks(), api.OK},
		{"on a side of the hole", marks(mark(5, 4, 100, 300)), api.OK},
		{"at a corner of the hole", marks(mark(9, 6, 100, 300)), api.OK},
		{"in the hole", marks(mark(6, 3, 100, 300)), api.ErrNone},
		{"beside the outline", marks(mark(21, 3, 100, 300)), api.ErrNone},
		{"above the outline", marks(mark(20, 11, 100, 300)), api.ErrNone},
		{"very far away", marks(mark(math.MaxInt, math.MinInt, 100, 300)), api.ErrNone},
		{"in the hole, and none of the thicknesses", marks(mark(6, 3, 5, 4)), api.ErrNone},
		{"in the hole, behind one with no thicknesses", marks(mark(0, 0, 5, 4), mark(6, 3, 100, 300)), api.ErrArg},
		{"with no thicknesses, behind one in the hole", marks(mark(6, 3, 100, 300), mark(0, 0, 5, 4)), api.ErrNone},
		{"from -1", marks(mark(0, 0, -1, 200)), api.ErrArg},
		{"from 0 to 2000", marks(mark(0, 0, 0, 2000)), api.OK},
		{"to 2001", marks(mark(0, 0, 100, 2001)), api.ErrArg},
		{"from 151 to 150", marks(mark(0, 0, 151, 150)), api.ErrArg},
		{"from 151 to 150, behind one that is out of order", marks(mark(1, 0, 100, 300), mark(0, 0, 100, 300), mark(2, 0, 151, 150)), api.ErrArg},
		{"in the hole, out of order", marks(mark(20, 10, 100, 300), mark(6, 3, 100, 300)), api.ErrNone},
		{"by U", marks(mark(0, 0, 100, 300), mark(1, 0, 100, 300), mark(20, 0, 100, 300)), api.OK},
		{"by V, then by U", marks(mark(20, 0, 100, 300), mark(0, 1, 100, 300), mark(5, 1, 100, 300), mark(1, 2, 100, 300)), api.OK},
		{"two at one point", marks(mark(3, 1, 100, 300), mark(3, 1, 100, 300)), api.ErrState},
		{"U goes down", marks(mark(3, 1, 100, 300), mark(2, 1, 100, 300)), api.ErrState},
		{"V goes down", marks(mark(3, 2, 100, 300), mark(4, 1, 100, 300)), api.ErrState},
		{"V goes down at last", marks(mark(3, 1, 100, 300), mark(3, 2, 100, 300), mark(4, 1, 100, 300)), api.ErrState},
		{"by U, then by V", marks(mark(1, 2, 100, 300), mark(2, 1, 100, 300)), api.ErrState},
		{"out of order, and not as thick as the skin", marks(mark(2, 1, 0, 5), mark(1, 1, 0, 5)), api.ErrState},
	})
}

func TestCheckClash(t *testing.T) {
	marks := func(steep int, list ...api.Mark) func(s *api.Skin) {
		return func(s *api.Skin) { s.Steep, s.Marks = steep, list }
	}
	checkAll(t, []checked{
		{"below the skin's", marks(2, mark(0, 0, 80, 99)), api.ErrClash},
		{"up to the least of the skin's", marks(2, mark(0, 0, 80, 100)), api.OK},
		{"from the greatest of the skin's", marks(2, mark(0, 0, 300, 400)), api.OK},
		{"above the skin's", marks(2, mark(0, 0, 301, 400)), api.ErrClash},
		{"all of the skin's and more", marks(2, mark(0, 0, 0, 2000)), api.OK},
		{"the second one below the skin's", marks(2, mark(0, 0, 80, 100), mark(1, 0, 80, 99)), api.ErrClash},
		{"as much higher as may be, aside", marks(2, mark(0, 0, 180, 200), mark(3, 0, 206, 210)), api.OK},
		{"more than that", marks(2, mark(0, 0, 180, 200), mark(3, 0, 207, 210)), api.ErrClash},
		{"as much lower as may be, aside", marks(2, mark(0, 0, 180, 200), mark(3, 0, 170, 174)), api.OK},
		{"more than that", marks(2, mark(0, 0, 180, 200), mark(3, 0, 170, 173)), api.ErrClash},
		{"as much higher as may be, up", marks(2, mark(0, 0, 180, 200), mark(0, 3, 206, 210)), api.OK},
		{"more than that", marks(2, mark(0, 0, 180, 200), mark(0, 3, 207, 210)), api.ErrClash},
		{"as much higher as may be, up to the right", marks(2, mark(0, 0, 180, 200), mark(3, 1, 208, 210)), api.OK},
		{"more than that", marks(2, mark(0, 0, 180, 200), mark(3, 1, 209, 210)), api.ErrClash},
		{"as much higher as may be, up to the left", marks(2, mark(3, 0, 180, 200), mark(0, 1, 208, 210)), api.OK},
		{"more than that", marks(2, mark(3, 0, 180, 200), mark(0, 1, 209, 210)), api.ErrClash},
		{"level", marks(0, mark(0, 0, 180, 200), mark(20, 10, 200, 210)), api.OK},
		{"not level", marks(0, mark(0, 0, 180, 200), mark(20, 10, 201, 210)), api.ErrClash},
		{"steep", marks(1000, mark(0, 0, 100, 100), mark(1, 0, 300, 300)), api.OK},
		{"the last one with the first one", marks(2, mark(0, 0, 180, 200), mark(4, 0, 190, 220), mark(8, 0, 217, 230)), api.ErrClash},
		{"the last two", marks(2, mark(0, 0, 180, 200), mark(4, 0, 190, 200), mark(8, 0, 209, 230)), api.ErrClash},
		{"each two of three", marks(2, mark(0, 0, 180, 200), mark(4, 0, 190, 210), mark(8, 0, 216, 230)), api.OK},
	})
}

// There is an error just if nothing is left for some point, when all that goes with no other point is taken away.
func TestCheckRandom(t *testing.T) {
	rng := rand.New(rand.NewSource(101))
	seen := map[api.Errno]int{}
	for range 3000 {
		s := randomSkin(rng, 5)
		if points := allPoints(s.Area); len(points) > 0 && len(s.Marks) > 0 {
			s.Marks[rng.Intn(len(s.Marks))].Thick = randomSpan(rng, 0, 60)
		}
		want := api.OK
		if _, _, ok := settled(s); !ok {
			want = api.ErrClash
		}
		if e := wear.Check(s); e != want {
			t.Fatal(s, e, want)
		}
		seen[want]++
	}
	if seen[api.OK] < 500 || seen[api.ErrClash] < 500 {
		t.Error(seen)
	}
}

func TestBounds(t *testing.T) {
	two := changed(func(s *api.Skin) { s.Marks = append(s.Marks, mark(20, 10, 140, 160)) })
	three := changed(func(s *api.Skin) {
		s.Marks = []api.Mark{mark(0, 0, 180, 200), mark(10, 0, 150, 250), mark(20, 10, 290, 400)}
		s.Steep = 5
	})
	for _, c := range []struct {
		s    api.Skin
		p    api.Pt
		want api.Span
	}{
		{example(), pt(0, 0), span(180, 200)},
		{example(), pt(20, 10), span(120, 260)},
		{example(), pt(1, 0), span(178, 202)},
		{example(), pt(0, 1), span(178, 202)},
		{example(), pt(5, 3), span(164, 216)},
		{two, pt(20, 0), span(140, 180)},
		{two, pt(20, 10), span(140, 160)},
		{two, pt(0, 10), span(160, 200)},
		{two, pt(0, 0), span(180, 200)},
		{three, pt(0, 0), span(180, 200)},
		{three, pt(10, 0), span(190, 250)},
		{three, pt(20, 10), span(290, 300)},
		{three, pt(20, 0), span(240, 300)},
		{changed(func(s *api.Skin) { s.Marks = nil }), pt(7, 0), span(100, 300)},
		{changed(func(s *api.Skin) { s.Steep = 0 }), pt(20, 10), span(180, 200)},
		{changed(func(s *api.Skin) { s.Steep = 1000 }), pt(1, 0), span(100, 300)},
		{changed(func(s *api.Skin) { s.Marks[0].Thick = span(90, 1000) }), pt(0, 0), span(100, 300)},
		{changed(func(s *api.Skin) { s.Marks[0].Thick = span(0, 2000) }), pt(20, 10), span(100, 300)},
		{of(rectangle(0, 0, 400, 400), 1000, span(0, 2000), mark(0, 0, 2000, 2000)), pt(400, 400), span(0, 2000)},
		{of(rectangle(0, 0, 400, 400), 1, span(0, 2000), mark(0, 0, 2000, 2000)), pt(400, 400), span(1200, 2000)},
		{of(rectangle(0, 0, 400, 400), 2, span(0, 2000), mark(400, 0, 0, 0)), pt(0, 400), span(0, 1600)},
	} {
		if b := askBounds(t, c.s, c.p); b != c.want {
			t.Error(c.s, c.p, b)
		}
	}
}

func TestBoundsOfNoPoint(t *testing.T) {
	slanted := of(api.Area{Outline: outline(0, 0, 8, 2, 4, 8)}, 0, span(1, 2))
	lattice := of(rectangle(0, 0, 9, 9, box(2, 2, 3, 3), box(4, 4, 7, 7), box(6, 6, 12, 8)), 0, span(1, 2))
	wide := of(rectangle(0, 0, 9, 9, box(math.MinInt, 3, math.MaxInt, 5)), 0, span(1, 2))
	for _, c := range []struct {
		s    api.Skin
		p    api.Pt
		want api.Errno
	}{
		{example(), pt(-1, 0), api.ErrNone},
		{example(), pt(0, -1), api.ErrNone},
		{example(), pt(21, 10), api.ErrNone},
		{example(), pt(20, 11), api.ErrNone},
		{example(), pt(6, 3), api.ErrNone},
		{example(), pt(8, 5), api.ErrNone},
		{example(), pt(5, 3), api.OK},
		{example(), pt(9, 3), api.OK},
		{example(), pt(6, 2), api.OK},
		{example(), pt(6, 6), api.OK},
		{example(), pt(math.MinInt, math.MaxInt), api.ErrNone},
		{example(), pt(math.MaxInt, 5), api.ErrNone},
		{example(), pt(5, math.MinInt), api.ErrNone},
		{example(), pt(1<<32, 1<<32), api.ErrNone},
		{slanted, pt(0, 0), api.OK},
		{slanted, pt(4, 1), api.OK},
		{slanted, pt(5, 1), api.ErrNone},
		{slanted, pt(2, 4), api.OK},
		{slanted, pt(2, 5), api.ErrNone},
		{slanted, pt(4, 8), api.OK},
		{slanted, pt(6, 5), api.OK},
		{slanted, pt(7, 5), api.ErrNone},
		{lattice, pt(2, 2), api.OK},
		{lattice, pt(3, 3), api.OK},
		{lattice, pt(5, 6), api.ErrNone},
		{lattice, pt(6, 6), api.ErrNone},
		{lattice, pt(7, 7), api.ErrNone},
		{lattice, pt(6, 7), api.OK},
		{lattice, pt(9, 7), api.ErrNone},
		{lattice, pt(9, 8), api.OK},
		{wide, pt(0, 3), api.OK},
		{wide, pt(0, 4), api.ErrNone},
		{wide, pt(9, 4), api.ErrNone},
		{wide, pt(9, 5), api.OK},
		{pointless(), pt(1, 1), api.ErrNone},
	} {
		b, e := wear.Bounds(c.s, c.p)
		if e != c.want || e != api.OK && b != (api.Span{}) {
			t.Error(c.s, c.p, b, e)
		}
	}
}

// The bounds of each point, and only of points, are what is left for it when all that goes with no other point is taken away.
func TestBoundsRandom(t *testing.T) {
	rng := rand.New(rand.NewSource(102))
	narrow := 0
	for range 1500 {
		s := randomSkin(rng, 6)
		lows, highs, _ := settled(s)
		for u := -1; u <= 8; u++ {
			for v := -1; v <= 8; v++ {
				p := pt(u, v)
				b, e := wear.Bounds(s, p)
				if !isIn(s.Area, p) {
					if e != api.ErrNone || b != (api.Span{}) {
						t.Fatal(s, p, b, e)
					}
					continue
				}
				if e != api.OK || b != span(lows[p], highs[p]) {
					t.Fatal(s, p, b, e, lows[p], highs[p])
				}
				if b != s.Thick && s.Steep > 0 {
					narrow++
				}
			}
		}
	}
	if narrow < 5000 {
		t.Error(narrow)
	}
}
