package plane_test

import (
	"math/rand"
	"slices"
	"testing"

	"thatch/api"
	"thatch/plane"
)

func pt(u, v int) api.Pt { return api.Pt{U: u, V: v} }

func quotient(num, den int) plane.Quotient { return plane.Quotient{Num: num, Den: den} }

func TestQuotients(t *testing.T) {
	ascending := []plane.Quotient{quotient(-3, 2), plane.Whole(-1), plane.Whole(0), quotient(1, 3), quotient(1, 2), quotient(2, 3), plane.Whole(1), quotient(7, 2)}
	for i, q := range ascending {
		for k, o := range ascending {
			if c := q.Compare(o); c < 0 != (i < k) || c > 0 != (i > k) {
				t.Error(q, o, c)
			}
			b := q.Between(o)
			if i < k && (b.Compare(q) <= 0 || b.Compare(o) >= 0) || b.Den > q.Den+o.Den {
				t.Error(q, o, b)
			}
		}
	}
	if b := quotient(1, 3).Between(quotient(2, 3)); b != quotient(1, 2) {
		t.Error("not in lowest terms", b)
	}
}

func TestAround(t *testing.T) {
	var list []api.Pt
	for from, to := range plane.Around([]api.Pt{pt(0, 0), pt(9, 0), pt(0, 9)}) {
		list = append(list, from, to)
	}
	if !slices.Equal(list, []api.Pt{pt(0, 0), pt(9, 0), pt(9, 0), pt(0, 9), pt(0, 9), pt(0, 0)}) {
		t.Error(list)
	}
}

// isLine wants a line to lead from a height to another one, to be at these places there, and to have that step.
func isLine(t *testing.T, l plane.Line, foot, top, at, topAt, step int) {
	t.Helper()
	if l.Path() != l || l.Foot() != foot || l.Top() != top || l.Step() != step {
		t.Error(l)
	}
	if l.At(plane.Whole(foot)) != plane.Whole(at) || l.At(plane.Whole(top)) != plane.Whole(topAt) {
		t.Error(l, l.At(plane.Whole(foot)), l.At(plane.Whole(top)))
	}
}

func TestSides(t *testing.T) {
	rims := plane.Rims([]api.Pt{pt(5, 0), pt(20, 0), pt(30, 10), pt(20, 20), pt(0, 20)})
	if len(rims) != 3 {
		t.Fatal(rims)
	}
	isLine(t, rims[0], 0, 10, 20, 30, -1)
	isLine(t, rims[1], 10, 20, 30, 20, -1)
	isLine(t, rims[2], 0, 20, 5, 0, 1)
	jambs := plane.Jambs(api.Box{From: pt(3, 4), To: pt(7, 9)})
	isLine(t, jambs[0], 4, 9, 3, 3, 1)
	isLine(t, jambs[1], 4, 9, 7, 7, -1)
	stems := plane.Stems(-5, api.Bundle{U: -8, Width: 20, Length: 40, Lean: 6, Taper: 3, Thick: 9})
	isLine(t, stems[0], -5, 35, -8, 1, 1)
	isLine(t, stems[1], -5, 35, 12, 15, -1)
}

func TestPlacesOfALine(t *testing.T) {
	l := plane.Stems(0, api.Bundle{U: 10, Width: 9, Length: 4, Lean: 3})[0]
	for _, c := range []struct {
		v, want   plane.Quotient
		low, high int
	}{
		{plane.Whole(-1), quotient(37, 4), -1, -1},
		{plane.Whole(0), plane.Whole(10), 0, -1},
		{quotient(2, 3), quotient(21, 2), 1, -1},
		{plane.Whole(4), plane.Whole(13), 1, 0},
		{plane.Whole(5), quotient(55, 4), 1, 1},
	} {
		low, high := l.Ends(c.v)
		if u := l.At(c.v); u != c.want || low != c.low || high != c.high {
			t.Error(c, u, low, high)
		}
	}
	left, right := plane.Whole(10), plane.Whole(11)
	if l.Inward(left, quotient(2, 3)) >= 0 || l.Inward(right, quotient(2, 3)) <= 0 || l.Inward(quotient(21, 2), quotient(2, 3)) != 0 {
		t.Error("to the right of a left side is inward")
	}
	o := plane.Stems(0, api.Bundle{U: 1, Width: 9, Length: 4, Lean: 3})[1]
	if l.CompareAt(o, quotient(2, 3)) != 0 || o.Inward(left, quotient(2, 3)) <= 0 || o.Inward(right, quotient(2, 3)) >= 0 {
		t.Error("to the left of a right side is inward")
	}
}

// Two lines are compared like the places that are told of them.
func TestCompareAt(t *testing.T) {
	rng := rand.New(rand.NewSource(70))
	equal := 0
	for range 8000 {
		l, o := randomStem(rng), randomStem(rng)
		v := quotient(rng.Intn(40), 1)
		if rng.Intn(2) == 0 {
			v = plane.Whole(rng.Intn(9)).Between(quotient(rng.Intn(9), 7))
		}
		c, want := l.CompareAt(o, v), l.At(v).Compare(o.At(v))
		if c < 0 != (want < 0) || c > 0 != (want > 0) {
			t.Fatal(l, o, v, c, want)
		}
		if c == 0 {
			equal++
		}
	}
	if equal < 20 {
		t.Error(equal)
	}
}

func randomStem(rng *rand.Rand) plane.Line {
	return plane.Stems(rng.Intn(5)-2, api.Bundle{U: rng.Intn(9) - 4, Width: 1 + rng.Intn(9), Length: 1 + rng.Intn(9), Lean: rng.Intn(9) - 4})[rng.Intn(2)]
}

func levels(list ...plane.Line) []plane.Quotient { return slices.Collect(plane.Levels(list)) }

func TestLevels(t *testing.T) {
	straight := plane.Stems(0, api.Bundle{U: 0, Width: 10, Length: 10})
	leaning := plane.Stems(0, api.Bundle{U: 0, Width: 10, Length: 10, Lean: 5})
	for _, c := range []struct {
		list []plane.Line
		want []plane.Quotient
	}{
		{nil, nil},
		{straight[:1], []plane.Quotient{plane.Whole(5)}},
		{straight[:], []plane.Quotient{plane.Whole(5)}},
		{append(straight[:], straight[:]...), []plane.Quotient{plane.Whole(5)}},
		{[]plane.Line{straight[0], leaning[1]}, []plane.Quotient{plane.Whole(5)}},
		// They have a point in common at 0.
		{[]plane.Line{straight[0], leaning[0]}, []plane.Quotient{plane.Whole(5)}},
		// One ends at 3, the other at 10.
		{[]plane.Line{straight[0], plane.Stems(0, api.Bundle{U: 20, Width: 9, Length: 3})[0]}, []plane.Quotient{quotient(3, 2), quotient(13, 2)}},
		// They cross at 20/3.
		{[]plane.Line{straight[0], plane.Stems(0, api.Bundle{U: -2, Width: 9, Length: 10, Lean: 3})[0]}, []plane.Quotient{quotient(5, 1), quotient(15, 2)}},
		// These would, but one ends below.
		{[]plane.Line{straight[0], plane.Stems(0, api.Bundle{U: -2, Width: 9, Length: 5, Lean: 1})[0]}, []plane.Quotient{quotient(5, 2), quotient(15, 2)}},
	} {
		if got := levels(c.list...); !slices.Equal(got, c.want) {
			t.Error(c.list, got, c.want)
		}
	}
	for v := range plane.Levels(straight[:]) {
		if v != plane.Whole(5) {
			t.Error(v)
		}
		break
	}
}

// Between two neighbouring levels there is a height at which lines end or cross, and only there does their order change.
func TestLevelsTellAllOrders(t *testing.T) {
	rng := rand.New(rand.NewSource(71))
	for range 200 {
		var list []plane.Line
		for range 5 {
			list = append(list, randomStem(rng))
		}
		all := levels(list...)
		for range 40 {
			v := plane.Whole(rng.Intn(8) - 2).Between(quotient(rng.Intn(50), 7))
			if slices.ContainsFunc(list, func(l plane.Line) bool { return l.Foot()*v.Den == v.Num || l.Top()*v.Den == v.Num }) {
				continue
			}
			order, ok := orderAt(list, v)
			if ok && len(order) > 0 && !slices.ContainsFunc(all, func(w plane.Quotient) bool {
				o, _ := orderAt(list, w)
				return slices.Equal(o, order)
			}) {
				t.Fatal(list, v, order, all)
			}
		}
	}
}

// orderAt returns the numbers of the lines that are at a height, from left to right, and whether no two of them cross there.
func orderAt(list []plane.Line, v plane.Quotient) (order []int, ok bool) {
	for i, l := range list {
		if low, high := l.Ends(v); low >= 0 && high <= 0 {
			order = append(order, i)
		}
	}
	slices.SortStableFunc(order, func(i, k int) int { return list[i].CompareAt(list[k], v) })
	for i := 1; i < len(order); i++ {
		if list[order[i-1]].CompareAt(list[order[i]], v) == 0 && list[order[i-1]] != list[order[i]] {
			return order, false
		}
	}
	return order, true
}
