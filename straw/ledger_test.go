package straw_test

import (
	"math"
	"slices"
	"testing"

	"thatch/api"
	"thatch/straw"
)

// P2.3 (Ledger, Bundle).

func TestLedger(t *testing.T) {
	f := farm()
	chores := []api.Chore{cut(0, 44, "a"), dry("a", 22, 0, 4), comb("a", 4), bind("a", "r", 3), use("r", 5)}
	for _, c := range []struct {
		f    api.Farm
		s    api.Store
		want []api.Count
	}{
		{f, after(t, f, chores...), []api.Count{{Given: 44, Used: 15, Left: 25, Wasted: 4}, {}}},
		{f, begin(t, f), []api.Count{{}, {}}},
		{f, stocked(), []api.Count{{Given: 60, Used: 30, Left: 19, Wasted: 11}, {Given: 20, Used: 6, Left: 5, Wasted: 9}}},
		{reeds(), mixed(), []api.Count{{Given: 9, Left: 9}, {Given: 7, Used: 3, Left: 4}, {Given: 14, Left: 9, Wasted: 5}}},
		{api.Farm{}, api.Store{}, nil},
	} {
		if l, e := straw.Ledger(c.f, c.s); e != api.OK || !slices.Equal(l, c.want) {
			t.Error(l, e)
		}
	}
}

func TestBundle(t *testing.T) {
	f, s := reeds(), mixed()
	s.Heaps[1].Stage = api.HpBound
	for per, want := range map[int][][]api.Portion{
		3:  {parts(0, 3), parts(0, 2, 1, 1), parts(1, 3), parts(2, 3), parts(2, 3), parts(0, 3)},
		6:  {parts(0, 5, 1, 1), parts(1, 3, 2, 3), parts(2, 3, 0, 3)},
		9:  {parts(0, 5, 1, 4), parts(2, 6, 0, 3)},
		18: {parts(0, 5, 1, 4, 2, 6, 0, 3)},
	} {
		s.Heaps[1].Per = per
		for k := range want {
			if l, e := straw.Bundle(f, s, "m", k); e != api.OK || !slices.Equal(l, want[k]) {
				t.Error(per, k, l, e)
			}
		}
		for _, k := range []int{math.MinInt, -1, len(want), len(want) + 1, math.MaxInt} {
			if l, e := straw.Bundle(f, s, "m", k); e != api.ErrArg || l != nil {
				t.Error(per, k, l, e)
			}
		}
	}
	s.Heaps[0].Stage = api.HpCombed
	for name, want := range map[string]api.Errno{"": api.ErrNone, "none": api.ErrNone, "M": api.ErrNone, "l": api.ErrState, "n": api.ErrState} {
		if l, e := straw.Bundle(f, s, name, -1); e != want || l != nil {
			t.Error(name, l, e)
		}
	}
}
