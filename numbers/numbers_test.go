package numbers_test

import (
	"math"
	"testing"

	"thatch/api"
	"thatch/numbers"
)

func TestIsFrom(t *testing.T) {
	for _, c := range []struct {
		n, low, high int
		want         bool
	}{
		{3, 3, 5, true}, {4, 3, 5, true}, {5, 3, 5, true}, {2, 3, 5, false}, {6, 3, 5, false},
		{0, 0, 0, true}, {0, 0, -1, false}, {-1, 0, -1, false},
		{math.MinInt, 0, 5, false}, {math.MaxInt, 0, 5, false}, {math.MinInt, math.MinInt, math.MaxInt, true},
	} {
		if numbers.IsFrom(c.n, c.low, c.high) != c.want {
			t.Error(c)
		}
	}
	if !numbers.IsFrom(api.SiEast, api.SiSouth, api.SiWest) || numbers.IsFrom(api.SiNone, api.SiSouth, api.SiWest) {
		t.Error("a number of another type")
	}
}

func TestIsSpan(t *testing.T) {
	for _, c := range []struct {
		s    api.Span
		want bool
	}{
		{api.Span{Low: 3, High: 5}, true}, {api.Span{Low: 3, High: 3}, true}, {api.Span{Low: 5, High: 5}, true},
		{api.Span{Low: 2, High: 5}, false}, {api.Span{Low: 3, High: 6}, false}, {api.Span{Low: 5, High: 4}, false},
		{api.Span{Low: math.MinInt, High: math.MaxInt}, false},
	} {
		if numbers.IsSpan(c.s, 3, 5) != c.want {
			t.Error(c)
		}
	}
}

func TestRise(t *testing.T) {
	for _, c := range []struct {
		list []int
		want bool
	}{
		{nil, true}, {[]int{7}, true}, {[]int{-1, 0, 5}, true}, {[]int{math.MinInt, math.MaxInt}, true},
		{[]int{3, 3}, false}, {[]int{0, 1, 1}, false}, {[]int{1, 1, 2}, false}, {[]int{2, 1, 3}, false}, {[]int{1, 3, 2}, false}, {[]int{math.MaxInt, math.MinInt}, false},
	} {
		if numbers.Rise(c.list) != c.want {
			t.Error(c)
		}
	}
}

func TestLowestTerms(t *testing.T) {
	for _, c := range []struct{ num, den, wantNum, wantDen int }{
		{17, 12, 17, 12}, {12, 18, 2, 3}, {18, 12, 3, 2}, {-12, 18, -2, 3}, {-18, 12, -3, 2},
		{0, 1, 0, 1}, {0, 7, 0, 1}, {7, 7, 1, 1}, {7, 1, 7, 1}, {1, 7, 1, 7}, {1 << 61, 1 << 60, 2, 1},
	} {
		if r := numbers.LowestTerms(c.num, c.den); r != (api.Ratio{Num: c.wantNum, Den: c.wantDen}) {
			t.Error(c, r)
		}
	}
}
